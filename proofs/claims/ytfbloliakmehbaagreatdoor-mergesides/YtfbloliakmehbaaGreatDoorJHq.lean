/-
  Parts of the proofs, joined by program.
-/
import Derived.Test.YtfbloliakmehbaaGreatDoorJChp
import Derived.Test.YtfbloliakmehbaaGreatDoorJIn
import Derived.Test.YtfbloliakmehbaaGreatDoorJEy
import Derived.Test.YtfbloliakmehbaaGreatDoorJHp
import Derived.Test.YtfbloliakmehbaaGreatDoorJCut
import Derived.Test.YtfbloliakmehbaaGreatDoorJExa
import Derived.Test.YtfbloliakmehbaaGreatDoorJHal
import Derived.Test.YtfbloliakmehbaaGreatDoorJCh
import Derived.Deep.RegionHeld3
import Derived.Test.YtfbloliakmehbaaGreatDoorJRtp
import Derived.Test.YtfbloliakmehbaaGreatDoorJCi
namespace Go.Proofs.YtfbloliakmehbaaGreatDoor
open Go.RowKit
set_option linter.unusedVariables false
set_option maxHeartbeats 1000000 in
theorem least_any (a : Option Addr) (cap : Nat) (l : List (Int × Int × Int × Int)) (w : World) (hs : Sls enC 4 w a cap l) (hl : l.length <= 40) :
  Calls Tryz.prog 82 #[.slice a l.length cap] w fun e w' => e = .returned (.tuple #[.int .i64 (if 40 < lowF l then 0 else lowF l), errV (if 40 < lowF l then 4 else 0)]) /\ Below w.heap.size w w' := by
 have hcap := hs.2.2.1
 have HS := hide hs
 clear hs
 generalize hA : (if 40 < lowF l then (0 : Int) else lowF l) = RA
 generalize hE : errV (if 40 < lowF l then 4 else 0) = RE
 have HA := hide hA
 have HE := hide hE
 clear hA hE
 go_enter Tryz.func82, Tryz.ntmps82
 go_wp2_with fail
 go_loopw [4, 9] (fun hv iv wr => ∃ k : Nat, k <= l.length /\ iv = .int .i64 k /\ hv = .int .i64 (lowF (l.take k)) /\ Below w.heap.size w wr) (fun _ iv _ => l.length - (intOf iv).toNat)
 case atStart => exact ⟨0, Nat.zero_le _, rfl, rfl, Below.refl _ _⟩
 case round =>
  obtain ⟨k, hk, rfl, rfl, hbel⟩ := hrel
  have hbd := lowF_bd (l.take k)
  by_cases hlt : k < l.length
  ·have hne : l ≠ [] := by intro e; rw [e] at hlt; simp at hlt
   obtain ⟨b1, o1, rfl, hc1⟩ := ((unhide HS).below hbel).2.2.2 hne
   obtain ⟨f, hf⟩ : ∃ f, l[k]? = some f := ⟨l[k], List.getElem?_eq_getElem hlt⟩
   obtain ⟨q0, q1, q2, q3⟩ := Sls.ent (cap := 0) hc1 hf
   have HT := hide (lowF_take hf)
   have HBEL := hide hbel
   have hkl : (l.take k).length <= 40 := by simp; omega
   obtain ⟨x, y, z, t⟩ := f
   dsimp only at *
   clear hc1 hf hne hbel
   generalize lowF (l.take k) = H at *
   by_cases he : x = H
   ·subst he
    go_wp2
    go_roundw
    case rel => exact ⟨k + 1, by omega, by go_num, by rw [unhide HT, if_pos rfl], (unhide HBEL).alloc (unhide HBEL).size _⟩
    case measure => simp [intOf]; omega
   ·have he' : (x == H) = false := by rw [beq_eq_false_iff_ne]; exact he
    go_wp2
    go_roundw
    case rel => exact ⟨k + 1, by omega, by go_num, by rw [unhide HT, if_neg he], (unhide HBEL).alloc (unhide HBEL).size _⟩
    case measure => simp [intOf]; omega
  ·obtain rfl : k = l.length := by omega
   rw [List.take_length] at hbd ⊢
   have HBEL := hide hbel
   clear hbel
   generalize lowF l = H at *
   by_cases hH : 40 < H
   ·go_wp2
    go_ret2
    have h1 := unhide HA
    have h2 := unhide HE
    rw [if_pos hH] at h1 h2
    exact ⟨by rw [<- h1, <- h2]; rfl, unhide HBEL⟩
   ·go_wp2
    go_ret2
    have h1 := unhide HA
    have h2 := unhide HE
    rw [if_neg (by omega)] at h1 h2
    exact ⟨by rw [<- h1, <- h2]; rfl, unhide HBEL⟩
theorem info_exH : (Tryz.prog.info? 69).map (fun i => (i.zero, i.size, i.bytes)) = some (some (.agg #[.int .i64 0, .int .i64 0]), 2, 16) := by kernel_rfl
theorem exC_len (e : Int × Int) : (exC e).length = 2 := rfl
theorem exC_one (e : Int × Int) : ∀ u ∈ exC e, u.oneCell' = true := by
 intro u hu
 unfold exC at hu
 rcases List.mem_cons.1 hu with rfl | hu
 ·rfl
 rw [List.mem_singleton.1 hu]
 rfl
theorem sh_take {l : List (Int × Int × Int × Int)} {k : Nat} {e : (Int × Int × Int × Int)} (h : l[k]? = some e) : (l.map shE).take (k + 1) = (l.map shE).take k ++ [(e.2.1 - 288, e.2.2.1)] := by
 rw [List.take_add_one, List.getElem?_map, h]
 rfl
set_option maxHeartbeats 2000000 in
theorem room_any (n : Nat) (a : Option Addr) (cap : Nat) (l : List (Int × Int × Int × Int)) (size : Int) (w : World) (hs : Sls enC 4 w a cap l) (hl : l.length <= 40) (hn : 288 <= n /\ n <= 6400) (hin : ∀ e ∈ l, 0 <= e.2.1 /\ e.2.1 <= 65535 /\ 0 <= e.2.2.1 /\ e.2.2.1 <= 65535) :
  Calls Tryz.prog 83 #[.int .i64 n, .slice a l.length cap, .int .i64 size] w fun e w' => e = .returned (.tuple #[.int .i64 (if fitE ((n : Int) - 288) (l.map shE) size = 0 then 288 + fitAt ((n : Int) - 288) (l.map shE) size else 0), errV (fitE ((n : Int) - 288) (l.map shE) size)]) /\ Below w.heap.size w w' := by
 obtain ⟨i0, hi0, hz0, hz1, hz2⟩ := info_parts info_exH
 have hcap := hs.2.2.1
 have HS := hide hs
 have HIN := hide hin
 clear hs hin
 generalize hA : (if fitE ((n : Int) - 288) (l.map shE) size = 0 then 288 + fitAt ((n : Int) - 288) (l.map shE) size else 0) = RA
 generalize hE : errV (fitE ((n : Int) - 288) (l.map shE) size) = RE
 have HA := hide hA
 have HE := hide hE
 clear hA hE
 go_enter Tryz.func83, Tryz.ntmps83
 go_wp2_with fail
 go_loopw [8, 15] (fun v iv wr => ∃ k : Nat, k <= l.length /\ iv = .int .i64 k /\ Lst exC 2 69 wr w.heap.size v ((l.map shE).take k) /\ Below w.heap.size w wr) (fun _ iv _ => l.length - (intOf iv).toNat)
 case atStart => exact ⟨0, Nat.zero_le _, rfl, Lst.nil _ _, Below.refl _ _⟩
 case round =>
  obtain ⟨k, hk, rfl, hown, hbel⟩ := hrel
  obtain ⟨va, vm, vc, rfl⟩ := hown.shape
  by_cases hlt : k < l.length
  ·have hne : l ≠ [] := by intro e; rw [e] at hlt; simp at hlt
   obtain ⟨b1, o1, rfl, hc1⟩ := ((unhide HS).below hbel).2.2.2 hne
   obtain ⟨f, hf⟩ : ∃ f, l[k]? = some f := ⟨l[k], List.getElem?_eq_getElem hlt⟩
   obtain ⟨q0, q1, q2, q3⟩ := Sls.ent (cap := 0) hc1 hf
   have HT := hide (sh_take hf)
   have hfi := unhide HIN f (List.mem_of_getElem? hf)
   have hml : ((l.map shE).take k).length <= 40 := by simp; omega
   obtain ⟨x, y, z, t⟩ := f
   dsimp only at *
   have hB1 := hbel.alloc hbel.size (.cells #[.int .i64 x, .int .i64 y, .int .i64 z, .int .i64 t] 71)
   have HB3 := hide (hB1.alloc hB1.size (.cells #[.int .i64 (y - 288), .int .i64 z] 69))
   have HO3 := hide ((hown.below ((Below.refl _ _).alloc (Nat.le_refl _) (.cells #[.int .i64 x, .int .i64 y, .int .i64 z, .int .i64 t] 71))).below ((Below.refl _ _).alloc (Nat.le_refl _) (.cells #[.int .i64 (y - 288), .int .i64 z] 69)))
   have HGN : Hid (((wr.alloc (.cells #[.int .i64 x, .int .i64 y, .int .i64 z, .int .i64 t] 71)).alloc (.cells #[.int .i64 (y - 288), .int .i64 z] 69)).heap[wr.heap.size + 1]? = some (.cells (exC (y - 288, z)).toArray 69 (0, 0))) := hide (by
    have := heap_alloc_new (wr.alloc (.cells #[.int .i64 x, .int .i64 y, .int .i64 z, .int .i64 t] 71)) (.cells #[.int .i64 (y - 288), .int .i64 z] 69)
    rw [sz_alloc] at this
    exact this)
   have hsz := hbel.size
   clear hc1 hf hne hbel hB1 hown
   go_wp2_with (at_builtin; refine wpList_append_lst rfl _ _ 200 rfl w.heap.size i0 (.agg #[.int .i64 0, .int .i64 0]) 16 Tryz.underlying200 hi0 hz0 hz1 hz2 rfl (by decide) (by decide) _ _ rfl (unhide HO3) (wr.heap.size + 1) (y - 288, z) rfl (unhide HGN) rfl (exC_one _) (by omega) (by simp; omega) ?_)
   intro v9 w9 hown9 hbel9
   rw [<- unhide HT] at hown9
   have HO9 := hide hown9
   have HB9 := hide ((unhide HB3).trans hbel9)
   obtain ⟨a9, m9, c9, rfl⟩ := hown9.shape
   clear hown9 hbel9 HO3 HB3 HGN q0 q1 q2 q3
   go_wp2
   go_roundw
   case rel => exact ⟨k + 1, by omega, by go_num, unhide HO9, unhide HB9⟩
   case measure => simp [intOf]; omega
  ·obtain rfl : k = l.length := by omega
   rw [List.take_of_length_le (by simp)] at hown
   have ho : ExO wr w.heap.size (.slice va vm vc) (l.map shE) := hown
   obtain ⟨a2, c2, e2, hexs⟩ := ho.exs (fun e he => by
    obtain ⟨f, hf, rfl⟩ := List.mem_map.1 he
    have := unhide HIN f hf
    unfold InI shE
    dsimp only
    omega) (by simp; omega)
   simp only [Value.slice.injEq] at e2
   obtain ⟨rfl, rfl, rfl⟩ := e2
   have HF := hide (fit_any ((n : Int) - 288) va vc (l.map shE) size wr hexs)
   have HBEL := hide hbel
   have hml : (l.map shE).length <= 40 := by simp; omega
   have hfa : 0 <= fitAt ((n : Int) - 288) (l.map shE) size /\ fitAt ((n : Int) - 288) (l.map shE) size <= 6400 := by
    unfold fitAt
    by_cases h0 : fitE ((n : Int) - 288) (l.map shE) size = 0
    ·rw [if_pos h0]
     unfold fitE at h0
     by_cases h1 : chk ((n : Int) - 288) (l.map shE) = 0
     ·have h2 := freeL_small h1
      rw [if_neg (fun h => h h1)] at h0
      by_cases h3 : size < 1 \/ 6400 < size
      ·rw [if_pos h3] at h0; exact absurd h0 (by decide)
      ·rw [if_neg h3] at h0
       by_cases h4 : (fitB size (freeL ((n : Int) - 288) (l.map shE))).2 = 0
       ·rw [if_pos h4] at h0; exact absurd h0 (by decide)
       ·rcases fit_spec (size := size) (by omega) (fun r hr => (h2.1 r hr).2.1) with ⟨h5, _⟩ | ⟨_, h6, _⟩
        ·exact absurd h5 h4
        ·have := h2.1 _ h6; omega
     ·rw [if_pos h1] at h0; exact absurd h0 h1
    ·rw [if_neg h0]; omega
   clear hown ho hexs hbel
   generalize fitAt ((n : Int) - 288) (l.map shE) size = FA at *
   generalize fitE ((n : Int) - 288) (l.map shE) size = FE at *
   generalize (l.map shE).length = M at *
   go_wp2_with fail
   refine (unhide HF).mono ?_
   rintro e w1 ⟨rfl, hb1⟩
   have HB1 := hide ((unhide HBEL).trans (hb1.mono (unhide HBEL).size))
   clear hb1 HF HBEL
   by_cases h0 : FE = 0
   ·subst h0
    rw [errV_zero]
    go_wp2
    go_ret2
    have h1 := unhide HA
    have h2 := unhide HE
    rw [if_pos trivial] at h1
    exact ⟨by rw [<- h1, <- h2]; rfl, unhide HB1⟩
   ·rw [errV_pos _ h0]
    go_wp2
    go_ret2
    have h1 := unhide HA
    have h2 := unhide HE
    rw [if_neg h0] at h1
    rw [errV_pos _ h0] at h2
    exact ⟨by rw [<- h1, <- h2]; rfl, unhide HB1⟩
end Go.Proofs.YtfbloliakmehbaaGreatDoor
namespace Go.Proofs.YtfbloliakmehbaaGreatDoor
open Go.RowKit Go.Sort
set_option linter.unusedVariables false
theorem hPart_bs (a : Option Addr) (cap : Nat) (l : List Int) (x n : Nat) (w : World) (hbs : Bs w a cap l) (hx : x + n <= l.length) :
  Calls Tryz.prog 85 #[.slice a l.length cap, .agg #[.int .i64 x, .int .i64 n]] w fun e w' => ∃ a' c', e = .returned (.slice a' n c') /\ Bs w' a' c' ((l.drop x).take n) /\ Below w.heap.size w w' := by
 have hb0 : Below w.heap.size w (w.alloc (.cells #[.int .i64 x, .int .i64 n] 69)) := (Below.refl _ _).alloc (Nat.le_refl _) _
 obtain ⟨a1, hs1, hb1⟩ := slice_lohi (P := Tryz.prog) (t := 22) Tryz.underlying22 size_u8 (hbs.below hb0) x (x + n) (by omega) hx
 have e1 : x + n - x = n := by omega
 rw [e1] at hs1 hb1
 have e2 : ((x + n : Nat) : Int) = (x : Int) + n := by omega
 rw [e2] at hs1
 have HB0 := hide hb0
 have HB1 := hide hb1
 have h3 := hbs.2.2.1
 clear hbs hb0 hb1 e1 e2
 generalize l.length = N at *
 go_enter Tryz.func85, Tryz.ntmps85
 go_wp2
 go_ret
 exact ⟨_, _, rfl, unhide HB1, unhide HB0⟩
theorem hPart_row (g c N x n : Nat) (w : World) (hN : N <= 140737488351232) (hp : x + n <= N) (hn : N <= c) (hlt : x < c) :
  Calls Tryz.prog 85 #[.slice (some ⟨g, 0, none⟩) N c, .agg #[.int .i64 x, .int .i64 n]] w fun e w' => e = .returned (.slice (some ⟨g, x, none⟩) n (c - x)) /\ Below w.heap.size w w' := by
 have hs1 := fun w' => cut2_row (P := Tryz.prog) (t := 22) Tryz.underlying22 size_u8 g c N x n hp hn hlt w'
 go_enter Tryz.func85, Tryz.ntmps85
 go_wp2
 go_ret
 exact ⟨rfl, (Below.refl _ _).alloc (Nat.le_refl _) _⟩
theorem hPart_any (g c : Nat) (L : List Int) (x n : Nat) (w : World) (hbs : Bs w (some ⟨g, 0, none⟩) c L) (hx : x + n <= L.length) :
  Calls Tryz.prog 85 #[.slice (some ⟨g, 0, none⟩) L.length c, .agg #[.int .i64 x, .int .i64 n]] w fun e w' => ∃ q c', e = .returned (.slice q n c') /\ Bs w' q c' ((L.drop x).take n) /\ (0 < n -> q = some ⟨g, x, none⟩) /\ Below w.heap.size w w' := by
 rcases Nat.eq_zero_or_pos n with rfl | hn
 ·exact (hPart_bs (some ⟨g, 0, none⟩) c L x 0 w hbs hx).mono fun e w' ⟨a', c', he, h1, h2⟩ => ⟨a', c', he, h1, fun h => absurd h (Nat.lt_irrefl _), h2⟩
 ·have hc := hbs.2.1
  refine (hPart_row g c L.length x n w hbs.2.2.1 hx hc (by omega)).mono fun e w' ⟨he, h2⟩ => ⟨_, _, he, ?_, fun _ => rfl, h2⟩
  have := (hbs.drop x (by omega)).take n
  rw [if_neg (by omega)] at this
  have h3 := this.below h2
  simpa [addr_add] using h3
theorem hPart_run (g c : Nat) (L : List Int) (x n : Nat) (w : World) (hbs : Bs w (some ⟨g, 0, none⟩) c L) (hx : x + n <= L.length) :
  ∃ q, (∀ w', (Instr.slice 22 (.slice (some ⟨g, 0, none⟩) L.length c) (some (.int .i64 x)) (some (.int .i64 ((x : Int) + n))) none).run Tryz.prog w' = .ok (.slice q n (c - x)) w') /\ Bs w q (c - x) ((L.drop x).take n) /\ (0 < n -> q = some ⟨g, x, none⟩) := by
 rcases Nat.eq_zero_or_pos n with rfl | hn
 ·obtain ⟨a1, hs1, hb1⟩ := slice_lohi (P := Tryz.prog) (t := 22) Tryz.underlying22 size_u8 hbs x (x + 0) (by omega) hx
  rw [show x + 0 - x = 0 by omega] at hs1 hb1
  exact ⟨a1, fun w' => by have := hs1 w'; rw [show ((x + 0 : Nat) : Int) = (x : Int) + ((0 : Nat) : Int) by omega] at this; exact this, hb1, fun h => absurd h (Nat.lt_irrefl _)⟩
 ·have hc := hbs.2.1
  refine ⟨some ⟨g, x, none⟩, fun w' => cut2_row (P := Tryz.prog) (t := 22) Tryz.underlying22 size_u8 g c L.length x n hx hc (by omega) w', ?_, fun _ => rfl⟩
  have := (hbs.drop x (by omega)).take n
  rw [if_neg (by omega)] at this
  simpa [addr_add] using this
theorem hPart_w (a : Option Addr) (cap N : Nat) (x n : Nat) (a1 : Option Addr) (hN : N <= 140737488351232) (hx : x + n <= N) (hs : ∀ w', (Instr.slice 22 (.slice a N cap) (some (.int .i64 (x : Int))) (some (.int .i64 ((x : Int) + n))) none).run Tryz.prog w' = .ok (.slice a1 n (cap - x)) w') (w : World) :
  Calls Tryz.prog 85 #[.slice a N cap, .agg #[.int .i64 (x : Int), .int .i64 (n : Int)]] w fun e w' => e = .returned (.slice a1 n (cap - x)) /\ ∃ q os, w' = grow (w.drewN q) os := by
 go_enter Tryz.func85, Tryz.ntmps85
 go_wp2
 go_ret
 exact ⟨rfl, 0, _, by rw [alloc_eq_grow]; rfl⟩
end Go.Proofs.YtfbloliakmehbaaGreatDoor
namespace Go.Proofs.YtfbloliakmehbaaGreatDoor
open Go.RowKit
set_option linter.unusedVariables false
theorem alloc_range (p g c B : Nat) (L : List Int) (n t : Int) (w : World) (hh : Hp w B p g c L) (hbad : n < 1 \/ 1000 < n \/ t < 0 \/ 15 < t) :
  Calls Tryz.prog 42 #[.pointer (some ⟨p, 0, none⟩), .int .i64 n, .int .i64 t] w fun e w' => e = .returned (.tuple #[.int .i64 0, errV 1]) /\ w = w' := by
 clear hh
 rw [errV_pos 1 (by decide)]
 by_cases c1 : n < 1
 ·clear hbad
  go_enter Tryz.func42, Tryz.ntmps42
  go_wp2
  go_ret2
  exact ⟨rfl, rfl⟩
 ·by_cases c2 : 1000 < n
  ·clear hbad
   go_enter Tryz.func42, Tryz.ntmps42
   go_wp2
   go_ret2
   exact ⟨rfl, rfl⟩
  ·by_cases c3 : t < 0
   ·clear hbad
    go_enter Tryz.func42, Tryz.ntmps42
    go_wp2
    go_ret2
    exact ⟨rfl, rfl⟩
   ·have c4 : 15 < t := by omega
    clear hbad
    go_enter Tryz.func42, Tryz.ntmps42
    go_wp2
    go_ret2
    exact ⟨rfl, rfl⟩
set_option maxHeartbeats 1000000 in
theorem alloc_none (p g c B : Nat) (L : List Int) (n t : Int) (w : World) (hh : Hp w B p g c L) (hr : ¬ (n < 1 \/ 1000 < n \/ t < 0 \/ 15 < t)) (hlow : lowH L = 40) :
  Calls Tryz.prog 42 #[.pointer (some ⟨p, 0, none⟩), .int .i64 n, .int .i64 t] w fun e w' => e = .returned (.tuple #[.int .i64 0, errV 4]) /\ Below w.heap.size w w' := by
 have HE := hide (iEnts_yes (some ⟨g, 0, none⟩) c L w hh.bs hh.fine.len0)
 have HLW := hide (fun (a : Option Addr) (cap : Nat) (W : World) (hs : Sls enC 4 W a cap (entsK L 40)) => least_any a cap (entsK L 40) W hs (entsK_len L 40))
 rw [lowF_low, hlow, if_pos (by decide), if_pos (by decide)] at HLW
 have hel := entsK_len L 40
 have hcl := hh.cell
 have hl := hh.len
 rw [errV_pos 4 (by decide)] at HLW ⊢
 clear hh hlow
 have r1 : ¬ n < 1 := by omega
 have r2 : ¬ 1000 < n := by omega
 have r3 : ¬ t < 0 := by omega
 have r4 : ¬ 15 < t := by omega
 clear hr
 generalize entsK L 40 = EN at *
 generalize L.length = M at *
 go_enter Tryz.func42, Tryz.ntmps42
 go_wp2_with fail
 refine (unhide HE).mono ?_
 rintro e w1 ⟨v1, rfl, hown1, hb1⟩
 obtain ⟨a1, c1, rfl, hsl1⟩ := hown1.sls enC_len (by omega)
 have HLW1 := hide (unhide HLW a1 c1 w1 hsl1)
 have HB1 := hide hb1
 clear hown1 hsl1 hb1 HE HLW hcl
 go_wp2_with fail
 refine (unhide HLW1).mono ?_
 rintro e w2 ⟨rfl, hb2⟩
 have HB2 := hide ((unhide HB1).trans (hb2.mono (unhide HB1).size))
 clear hb2 HLW1 HB1
 go_wp2
 go_ret2
 exact ⟨rfl, unhide HB2⟩
set_option maxHeartbeats 1000000 in
theorem alloc_full (p g c B : Nat) (L : List Int) (n t : Int) (w : World) (hh : Hp w B p g c L) (hr : ¬ (n < 1 \/ 1000 < n \/ t < 0 \/ 15 < t)) (hlow : lowH L ≠ 40) (hfit : fitE ((L.length : Int) - 288) (takeL L) n ≠ 0) :
  Calls Tryz.prog 42 #[.pointer (some ⟨p, 0, none⟩), .int .i64 n, .int .i64 t] w fun e w' => e = .returned (.tuple #[.int .i64 0, errV (fitE ((L.length : Int) - 288) (takeL L) n)]) /\ Below w.heap.size w w' := by
 have HE := hide (iEnts_yes (some ⟨g, 0, none⟩) c L w hh.bs hh.fine.len0)
 have HLW := hide (fun (a : Option Addr) (cap : Nat) (W : World) (hs : Sls enC 4 W a cap (entsK L 40)) => least_any a cap (entsK L 40) W hs (entsK_len L 40))
 have h40 := lowH_le L
 rw [lowF_low, if_neg (by omega), if_neg (by omega), errV_zero] at HLW
 have HRM := hide (fun (a : Option Addr) (cap : Nat) (W : World) (hs : Sls enC 4 W a cap (entsK L 40)) => room_any L.length a cap (entsK L 40) n W hs (entsK_len L 40) hh.fine.len (ents_in hh.fine))
 change Hid (∀ (a : Option Addr) (cap : Nat) (W : World), Sls enC 4 W a cap (entsK L 40) -> Calls Tryz.prog 83 #[.int .i64 L.length, .slice a (entsK L 40).length cap, .int .i64 n] W fun e w' => e = .returned (.tuple #[.int .i64 (if fitE ((L.length : Int) - 288) (takeL L) n = 0 then 288 + fitAt ((L.length : Int) - 288) (takeL L) n else 0), errV (fitE ((L.length : Int) - 288) (takeL L) n)]) /\ Below W.heap.size W w') at HRM
 rw [if_neg hfit, errV_pos _ hfit] at HRM
 rw [errV_pos _ hfit]
 have hel := entsK_len L 40
 have HH := hide hh
 have hcl := hh.cell
 have hl := hh.len
 clear hh hlow
 have r1 : ¬ n < 1 := by omega
 have r2 : ¬ 1000 < n := by omega
 have r3 : ¬ t < 0 := by omega
 have r4 : ¬ 15 < t := by omega
 clear hr hfit
 generalize fitE ((L.length : Int) - 288) (takeL L) n = FE at *
 generalize lowH L = LH at *
 generalize entsK L 40 = EN at *
 go_enter Tryz.func42, Tryz.ntmps42
 go_wp2_with fail
 refine (unhide HE).mono ?_
 rintro e w1 ⟨v1, rfl, hown1, hb1⟩
 obtain ⟨a1, c1, rfl, hsl1⟩ := hown1.sls enC_len (by omega)
 have HLW1 := hide (unhide HLW a1 c1 w1 hsl1)
 have HSL := hide hsl1
 have HB1 := hide hb1
 clear hown1 hsl1 hb1 HE HLW hcl
 go_wp2_with fail
 refine (unhide HLW1).mono ?_
 rintro e w2 ⟨rfl, hb2⟩
 have hB2 := (unhide HB1).trans (hb2.mono (unhide HB1).size)
 have hcl := ((unhide HH).below hB2).cell
 have HRM2 := hide (unhide HRM a1 c1 w2 ((unhide HSL).below hb2))
 have HB2 := hide hB2
 clear hb2 hB2 HLW1 HB1 HRM HSL HH
 go_wp2_with fail
 refine (unhide HRM2).mono ?_
 rintro e w3 ⟨rfl, hb3⟩
 have HB3 := hide ((unhide HB2).trans (hb3.mono (unhide HB2).size))
 clear hb3 HRM2 HB2 hcl
 go_wp2
 go_ret2
 exact ⟨rfl, unhide HB3⟩
set_option maxHeartbeats 2000000 in
theorem alloc_yes (p g c B : Nat) (L : List Int) (n t : Int) (w : World) (hh : Hp w B p g c L) (hB : B <= w.heap.size) (h0 : alE L n t = 0) :
  Calls Tryz.prog 42 #[.pointer (some ⟨p, 0, none⟩), .int .i64 n, .int .i64 t] w fun e w' => e = .returned (.tuple #[.int .i64 (alH L n t), .nilIface]) /\ ∃ g' c', Hp w' B p g' c' (alB L n t) /\ Turn (foot p g) (foot p g') w w' := by
 obtain ⟨x, N, hk⟩ := al_ok hh.fine h0
 have h40 := hk.low
 have hlay := hk.lay hh.fine h0
 have hput := hk.put hh.fine
 have himg := hk.img h0
 have hf1 := alB_fine hh.fine n t
 have hby1 := alB_byt hh.byt n t
 have hlen1 := (hk.keep hh.fine h0).2.1
 have HE := hide (iEnts_yes (some ⟨g, 0, none⟩) c L w hh.bs hh.fine.len0)
 have HLW := hide (fun (a : Option Addr) (cap : Nat) (W : World) (hs : Sls enC 4 W a cap (entsK L 40)) => least_any a cap (entsK L 40) W hs (entsK_len L 40))
 rw [lowF_low, if_neg (by omega), if_neg (by omega), errV_zero] at HLW
 have HRM := hide (fun (a : Option Addr) (cap : Nat) (W : World) (hs : Sls enC 4 W a cap (entsK L 40)) => room_any L.length a cap (entsK L 40) n W hs (entsK_len L 40) hh.fine.len (ents_in hh.fine))
 change Hid (∀ (a : Option Addr) (cap : Nat) (W : World), Sls enC 4 W a cap (entsK L 40) -> Calls Tryz.prog 83 #[.int .i64 L.length, .slice a (entsK L 40).length cap, .int .i64 n] W fun e w' => e = .returned (.tuple #[.int .i64 (if fitE ((L.length : Int) - 288) (takeL L) n = 0 then 288 + fitAt ((L.length : Int) - 288) (takeL L) n else 0), errV (fitE ((L.length : Int) - 288) (takeL L) n)]) /\ Below W.heap.size W w') at HRM
 rw [hk.fit, if_pos rfl, errV_zero, hk.eqx] at HRM
 have hel := entsK_len L 40
 have hPl : (putL L ((lowH L : Int) + 1, (x : Int), (N : Int), t)).length = L.length := putL_len hput
 have HPUT : Hid (∀ W : World, Below w.heap.size w W -> Calls Tryz.prog 84 #[.slice (some ⟨g, 0, none⟩) L.length c, .agg #[.int .i64 ((lowH L : Int) + 1), .int .i64 x, .int .i64 N, .int .i64 t]] W fun e w' => ∃ g4 c4 cur4, e = .returned (.tuple #[.slice (some ⟨g4, 0, none⟩) L.length c4, .nilIface]) /\ Row w' w.heap.size g4 c4 cur4 (putL L ((lowH L : Int) + 1, (x : Int), (N : Int), t)) /\ Below w.heap.size w w' /\ Below W.heap.size W w') := hide (fun W hW => by
  refine (iPut_row (some ⟨g, 0, none⟩) c L ((lowH L : Int) + 1) x N t W (hh.bs.below hW) hput).mono fun e w' ⟨g4, c4, cur4, he, hr4, hb4⟩ => ⟨g4, c4, cur4, ?_, ?_, hW.trans (hb4.mono hW.size), hb4⟩
  ·rw [he]
   have hq : splice L (plc ((lowH L : Int) + 1)) (rowE ((lowH L : Int) + 1, (x : Int), (N : Int), t)) = putL L ((lowH L : Int) + 1, (x : Int), (N : Int), t) := by unfold putL; rw [if_pos hput]
   rw [hq, hPl]
  ·have hq : splice L (plc ((lowH L : Int) + 1)) (rowE ((lowH L : Int) + 1, (x : Int), (N : Int), t)) = putL L ((lowH L : Int) + 1, (x : Int), (N : Int), t) := by unfold putL; rw [if_pos hput]
   rw [hq] at hr4
   exact hr4.low hW.size)
 have hx1 := hk.x1
 have hx2 := hk.x2
 have hn1 := hk.n1
 have hn2 := hk.n2
 have ht1 := hk.t1
 have ht2 := hk.t2
 have hnN := hk.eqn
 subst hnN
 have HH := hide hh
 have hcl := hh.cell
 have hl := hh.len
 have HLAY := hide hlay
 have HF1 := hide hf1
 have HBY1 := hide hby1
 have HLEN1 := hide hlen1
 rw [himg.2]
 clear hh hk hput hlay hf1 hby1 hlen1 himg h0
 have r1 : ¬ (N : Int) < 1 := by omega
 have r2 : ¬ 1000 < (N : Int) := by omega
 have r3 : ¬ t < 0 := by omega
 have r4 : ¬ 15 < t := by omega
 generalize alB L N t = AB at *
 generalize putL L ((lowH L : Int) + 1, (x : Int), (N : Int), t) = P at *
 generalize lowH L = LH at *
 generalize entsK L 40 = EN at *
 generalize hM : L.length = M at *
 go_enter Tryz.func42, Tryz.ntmps42
 go_wp2_with fail
 refine (unhide HE).mono ?_
 rintro e w1 ⟨v1, rfl, hown1, hb1⟩
 obtain ⟨a1, c1, rfl, hsl1⟩ := hown1.sls enC_len (by omega)
 have HLW1 := hide (unhide HLW a1 c1 w1 hsl1)
 have HSL := hide hsl1
 have HB1 := hide hb1
 clear hown1 hsl1 hb1 HE HLW hcl
 go_wp2_with fail
 refine (unhide HLW1).mono ?_
 rintro e w2 ⟨rfl, hb2⟩
 have hB2 := (unhide HB1).trans (hb2.mono (unhide HB1).size)
 have hcl := ((unhide HH).below hB2).cell
 rw [hM] at hcl
 have HRM2 := hide (unhide HRM a1 c1 w2 ((unhide HSL).below hb2))
 have HB2 := hide hB2
 clear hb2 hB2 HLW1 HB1 HRM HSL
 go_wp2_with fail
 refine (unhide HRM2).mono ?_
 rintro e w3 ⟨rfl, hb3⟩
 have hB3 := (unhide HB2).trans (hb3.mono (unhide HB2).size)
 have hB3a : Below w.heap.size w (w3.alloc (.cells #[.int .i64 x, .int .i64 N] 69)) := hB3.alloc hB3.size _
 have hcl3 := ((unhide HH).below hB3a).cell
 rw [hM] at hcl3
 have hex : (w3.alloc (.cells #[.int .i64 x, .int .i64 N] 69)).heap[w3.heap.size]? = some (.cells #[.int .i64 x, .int .i64 N] 69 (0, 0)) := heap_alloc_new w3 _
 have hx0 : (w3.alloc (.cells #[.int .i64 x, .int .i64 N] 69)).cell? ⟨w3.heap.size, 0, none⟩ = some (.int .i64 x) := by rw [cell_of_row _ _ _ _ _ _ hex]; rfl
 have hx1' : (w3.alloc (.cells #[.int .i64 x, .int .i64 N] 69)).cell? ⟨w3.heap.size, 1, none⟩ = some (.int .i64 N) := by rw [cell_of_row _ _ _ _ _ _ hex]; rfl
 have HPUT3 : Hid (Calls Tryz.prog 84 #[.slice (some ⟨g, 0, none⟩) M c, .agg #[.int .i64 ((LH : Int) + 1), .int .i64 x, .int .i64 N, .int .i64 t]] (w3.alloc (.cells #[.int .i64 x, .int .i64 N] 69)).drew fun e w' => ∃ g4 c4 cur4, e = .returned (.tuple #[.slice (some ⟨g4, 0, none⟩) M c4, .nilIface]) /\ Row w' w.heap.size g4 c4 cur4 P /\ Below w.heap.size w w' /\ w'.cell? ⟨p, 0, none⟩ = some (.slice (some ⟨g, 0, none⟩) M c) /\ w'.cell? ⟨w3.heap.size, 0, none⟩ = some (.int .i64 x) /\ w'.cell? ⟨w3.heap.size, 1, none⟩ = some (.int .i64 N)) := hide (by
  refine (unhide HPUT _ (below_drew hB3a)).mono fun e w' ⟨g4, c4, cur4, he, hr, hb, hb2⟩ => ⟨g4, c4, cur4, he, hr, hb, ?_, ?_, ?_⟩
  ·exact (hb2.cell (p := ⟨p, 0, none⟩) (block_lt_of_cell hcl3)).trans hcl3
  ·exact (hb2.cell (p := ⟨w3.heap.size, 0, none⟩) (block_lt_of_cell hx0)).trans hx0
  ·exact (hb2.cell (p := ⟨w3.heap.size, 1, none⟩) (block_lt_of_cell hx1')).trans hx1')
 clear hb3 HRM2 HB2 hcl HPUT hex hB3 hB3a
 go_wp2_with fail
 generalize w3.alloc (.cells #[.int .i64 x, .int .i64 N] 69) = wx at *
 go_region_held3 (fun w' => w'.cell? ⟨p, 0, none⟩ = some (.slice (some ⟨g, 0, none⟩) M c) /\ w'.cell? ⟨w3.heap.size, 0, none⟩ = some (.int .i64 x) /\ w'.cell? ⟨w3.heap.size, 1, none⟩ = some (.int .i64 N)) (first | go_keep | (go_split_ands; refine ⟨?_, ?_, ?_⟩ <;> go_keep))
  ((go_at_call 84; refine (unhide HPUT3).mono ?_; rintro e w4 ⟨g4, c4, cur4, rfl, hr4, hb4, r0, r1, r2⟩))
 have hc4 := hr4.2.2.1
 rw [hPl] at hc4
 have HPART := hide (fun W => hPart_row g4 c4 M x N W (by omega) hx2 hc4 (by omega))
 have HR4 := hide hr4
 have HB4 := hide hb4
 clear hr4 hb4 HPUT3 hcl3 hx0 hx1'
 go_wp2_with fail
 refine (unhide HPART _).mono ?_
 rintro e w5 ⟨rfl, hb5⟩
 have hr5 := (unhide HR4).below hb5
 have hB5 := (unhide HB4).trans (hb5.mono (unhide HB4).size)
 have hclr : ∀ ty, (Builtin.clear_ #[22] ty #[.slice (some ⟨g4, x, none⟩) N (c4 - x)]).run Tryz.prog w5 = .ok (.tuple #[]) (laidW w5 g4 cur4 x (zerosB N)) := fun ty => run_clear_u8 w5 _ ty Tryz.underlying22 zero_u8 w.heap.size g4 x N _ c4 cur4 P (by omega) (by omega) hr5
 have hr6 := laidW_row hr5 (show x + (zerosB N).length <= _ by rw [length_zerosB]; omega)
 rw [unhide HLAY] at hr6
 have hB6 := laidW_below (cur := cur4) (l := zerosB N) (off := x) hB5 hr5.1
 have hp6 : (laidW w5 g4 cur4 x (zerosB N)).heap[p]? = some (.cells #[.slice (some ⟨g, 0, none⟩) L.length c] 105 (0, 0)) := (hB6.block p (unhide HH).plt).trans (unhide HH).blk
 have hcl6 : (laidW w5 g4 cur4 x (zerosB N)).cell? ⟨p, 0, none⟩ = some (.slice (some ⟨g, 0, none⟩) L.length c) := by rw [cell_of_row _ _ _ _ _ _ hp6]; rfl
 have hfr6 : (laidW w5 g4 cur4 x (zerosB N)).frozen? ⟨p, 0, none⟩ = false := frozen_of_row _ _ 0 _ _ hp6
 have HSET := hide ((unhide HH).set hB6 hr6 (unhide HBY1) (unhide HF1) hB)
 rw [unhide HLEN1] at HSET
 clear hr5 hr6 hB5 hB6 hp6 hb5 HR4 HB4 HPART r0 r1 r2
 generalize laidW w5 g4 cur4 x (zerosB N) = w6 at *
 go_wp2
 go_ret2
 exact ⟨rfl, g4, c4, unhide HSET⟩
theorem hAlloc_any (p g c B : Nat) (L : List Int) (n t : Int) (w : World) (hh : Hp w B p g c L) (hB : B <= w.heap.size) :
  Calls Tryz.prog 42 #[.pointer (some ⟨p, 0, none⟩), .int .i64 n, .int .i64 t] w fun e w' => e = .returned (.tuple #[.int .i64 (alH L n t), errV (alE L n t)]) /\ ∃ g' c', Hp w' B p g' c' (alB L n t) /\ Turn (foot p g) (foot p g') w w' := by
 by_cases h0 : alE L n t = 0
 ·rw [h0, errV_zero]
  exact alloc_yes p g c B L n t w hh hB h0
 ·have e1 : alH L n t = 0 := by unfold alH; rw [if_neg h0]
  have e2 : alB L n t = L := by unfold alB; rw [if_neg h0]
  rw [e1, e2]
  by_cases h1 : n < 1 \/ 1000 < n \/ t < 0 \/ 15 < t
  ·have e3 : alE L n t = 1 := by unfold alE; rw [if_pos h1]
   rw [e3]
   exact (alloc_range p g c B L n t w hh h1).mono fun e w' ⟨he, hw⟩ => ⟨he, g, c, by rw [<- hw]; exact hh, by rw [<- hw]; exact Turn.refl _ _⟩
  ·by_cases h2 : lowH L = 40
   ·have e3 : alE L n t = 4 := by unfold alE; rw [if_neg h1, if_pos h2]
    rw [e3]
    exact (alloc_none p g c B L n t w hh h1 h2).mono fun e w' ⟨he, hb⟩ => ⟨he, g, c, hh.below hb, Turn.of_below hb⟩
   ·have e3 : alE L n t = fitE ((L.length : Int) - 288) (takeL L) n := by unfold alE; rw [if_neg h1, if_neg h2]
    rw [e3] at h0 ⊢
    exact (alloc_full p g c B L n t w hh h1 h2 h0).mono fun e w' ⟨he, hb⟩ => ⟨he, g, c, hh.below hb, Turn.of_below hb⟩
end Go.Proofs.YtfbloliakmehbaaGreatDoor
namespace Go.Proofs.YtfbloliakmehbaaGreatDoor
open Go.RowKit Go.Sort
set_option linter.unusedVariables false
theorem Hp.ent {w : World} {B p g c : Nat} {L : List Int} (hh : Hp w B p g c L) {h : Int} (hc : chkE L h = 0) : 288 <= (entOf L h).2.1 /\ 1 <= (entOf L h).2.2.1 /\ (entOf L h).2.2.1 <= 1000 /\ (entOf L h).2.1 + (entOf L h).2.2.1 <= L.length := by
 obtain ⟨h1, h2, h3⟩ := chkE_zero.1 hc
 have h4 := hndB_iff.1 h2
 have := hh.fine.ent h4.1 h4.2 h3
 omega
theorem hPiece_no (p g c B : Nat) (L : List Int) (h x n : Int) (w : World) (hh : Hp w B p g c L) (hc : chkE L h ≠ 0) :
  Calls Tryz.prog 89 #[.pointer (some ⟨p, 0, none⟩), .int .i64 h, .int .i64 x, .int .i64 n] w fun e w' => e = .returned (.tuple #[.slice none 0 0, errV (chkE L h)]) /\ Below w.heap.size w w' := by
 have HG := hide (iGet_no (some ⟨g, 0, none⟩) c L h w hh.bs hc)
 rw [errV_pos _ hc] at HG ⊢
 have hcl := hh.cell
 have hl := hh.len
 clear hh hc
 unfold entV ent0 at HG
 dsimp only at HG
 generalize chkE L h = X at *
 generalize L.length = N at *
 go_enter Tryz.func89, Tryz.ntmps89
 go_wp2_with fail
 refine (unhide HG).mono ?_
 rintro e w1 ⟨rfl, hb1⟩
 have HB := hide hb1
 clear hb1 HG hcl
 go_wp2
 go_ret2
 exact ⟨rfl, (unhide HB).alloc (unhide HB).size _⟩
theorem hPiece_shape (p g c B : Nat) (L : List Int) (h x n : Int) (w : World) (hh : Hp w B p g c L) (hc : chkE L h = 0) (hx : x <= 9223372036854775807) (hn : n <= 9223372036854775807) (hbad : x < 0 \/ n < 0 \/ (entOf L h).2.2.1 < x + n) :
  Calls Tryz.prog 89 #[.pointer (some ⟨p, 0, none⟩), .int .i64 h, .int .i64 x, .int .i64 n] w fun e w' => e = .returned (.tuple #[.slice none 0 0, errV 3]) /\ Below w.heap.size w w' := by
 have HG := hide (iGet_yes (some ⟨g, 0, none⟩) c L h w hh.bs hc)
 rw [errV_pos _ (by decide)]
 have hcl := hh.cell
 have hl := hh.len
 have hen := hh.ent hc
 clear hh hc
 generalize entOf L h = E at *
 obtain ⟨e1, e2, e3, e4⟩ := E
 unfold entV at HG
 dsimp only at HG hen hbad
 generalize L.length = N at *
 by_cases c1 : x < 0
 ·clear hbad hx hn
  go_enter Tryz.func89, Tryz.ntmps89
  go_wp2_with fail
  refine (unhide HG).mono ?_
  rintro e w1 ⟨rfl, hb1⟩
  have HB := hide hb1
  clear hb1 HG hcl
  go_wp2
  go_ret2
  exact ⟨rfl, (unhide HB).alloc (unhide HB).size _⟩
 ·by_cases c2 : n < 0
  ·clear hbad hx hn
   go_enter Tryz.func89, Tryz.ntmps89
   go_wp2_with fail
   refine (unhide HG).mono ?_
   rintro e w1 ⟨rfl, hb1⟩
   have HB := hide hb1
   clear hb1 HG hcl
   go_wp2
   go_ret2
   exact ⟨rfl, (unhide HB).alloc (unhide HB).size _⟩
  ·have c3 : e3 - x < n := by omega
   have c4 : wrap64 (e3 - x) = e3 - x := by unfold wrap64; omega
   clear hbad
   go_enter Tryz.func89, Tryz.ntmps89
   go_wp2_with fail
   refine (unhide HG).mono ?_
   rintro e w1 ⟨rfl, hb1⟩
   have HB := hide hb1
   clear hb1 HG hcl
   go_wp2
   go_ret2
   exact ⟨rfl, (unhide HB).alloc (unhide HB).size _⟩
set_option maxRecDepth 100000 in
set_option maxHeartbeats 1000000 in
theorem hPiece_yes (p g c B : Nat) (L : List Int) (h : Int) (x n : Nat) (w : World) (hh : Hp w B p g c L) (hc : chkE L h = 0) (hn : (x : Int) + n <= (entOf L h).2.2.1) :
  Calls Tryz.prog 89 #[.pointer (some ⟨p, 0, none⟩), .int .i64 h, .int .i64 x, .int .i64 n] w fun e w' => ∃ q c', e = .returned (.tuple #[.slice q n c', .nilIface]) /\ Bs w' q c' ((L.drop ((entOf L h).2.1.toNat + x)).take n) /\ (0 < n -> q = some ⟨g, (entOf L h).2.1.toNat + x, none⟩) /\ Below w.heap.size w w' := by
 have mixed : Tryz.prog.follows .mixedOrders = true := by kernel_rfl
 have HG := hide (iGet_yes (some ⟨g, 0, none⟩) c L h w hh.bs hc)
 have hcl := hh.cell
 have hl := hh.len
 have hen := hh.ent hc
 obtain ⟨q, hs, hbq, hq⟩ := hPart_run g c L ((entOf L h).2.1.toNat + x) n w hh.bs (by omega)
 clear hc
 generalize entOf L h = E at *
 obtain ⟨e1, e2, e3, e4⟩ := E
 unfold entV at HG
 dsimp only at HG hen hn hs hbq hq ⊢
 obtain ⟨X, rfl⟩ := Int.eq_ofNat_of_zero_le (show 0 <= e2 by omega)
 obtain ⟨Y, rfl⟩ := Int.eq_ofNat_of_zero_le (show 0 <= e3 by omega)
 rw [Int.toNat_natCast] at *
 have HP := hide (fun W => hPart_w (some ⟨g, 0, none⟩) c L.length (X + x) n q (by omega) (by omega) hs W)
 rw [show ((X + x : Nat) : Int) = IntKind.i64.wrap ((X : Int) + x) by rw [IntKind.wrap_i64]; omega] at HP
 have HH := hide hh
 have HQ := hide hq
 have HBQ := hide hbq
 clear hh hs hq hbq
 generalize hR : (L.drop (X + x)).take n = R at *
 clear hR
 generalize hN : L.length = N at *
 generalize c - (X + x) = c' at *
 obtain ⟨n1, n2, n3, n4⟩ := hen
 obtain ⟨m1, m2, m3⟩ := hl
 have s1 : (X : Int) + x <= 6400 := by omega
 have s2 : 0 <= (X : Int) + x := by omega
 go_enter Tryz.func89, Tryz.ntmps89
 go_wp2_with fail
 refine (unhide HG).mono ?_
 rintro e w1 ⟨rfl, hb1⟩
 have hB1 : Below w.heap.size w (w1.alloc (.cells #[.int .i64 e1, .int .i64 X, .int .i64 Y, .int .i64 e4] 71)) := hb1.alloc hb1.size _
 have hcl1 := ((unhide HH).below hB1).cell
 rw [hN] at hcl1
 have hen1 := EnB.new w1 (e1, (X : Int), (Y : Int), e4)
 have k0 := fun n os => cell_grown ((unhide HH).below hB1).plt hcl1 n os
 have k1 := fun n os => cell_grown hen1.lt hen1.cells.2.1 n os
 have hce2 := hen1.cells.2.2.1
 have HB1 := hide hB1
 clear hb1 hB1 HG hcl HH hcl1 hen1
 dsimp only at k1 hce2
 go_wp2_with fail
 generalize w1.alloc (.cells #[.int .i64 e1, .int .i64 X, .int .i64 Y, .int .i64 e4] 71) = W at *
 go_quiet_grown ((go_at_call 85; with_reducible exact Calls.grown_of (unhide HP _)))
 go_wp2
 go_ret2
 have hb : Below w.heap.size w (grow (W.drewN nq) osq) := (unhide HB1).trans (grow_below.mono (unhide HB1).size)
 exact ⟨q, c', rfl, (unhide HBQ).below hb, unhide HQ, hb⟩
theorem hRead_no (p g c B : Nat) (L : List Int) (h x n E : Int) (w : World) (hE : E ≠ 0) (hpc : Calls Tryz.prog 89 #[.pointer (some ⟨p, 0, none⟩), .int .i64 h, .int .i64 x, .int .i64 n] w fun e w' => e = .returned (.tuple #[.slice none 0 0, errV E]) /\ Below w.heap.size w w') :
  Calls Tryz.prog 223 #[.pointer (some ⟨p, 0, none⟩), .int .i64 h, .int .i64 x, .int .i64 n] w fun e w' => e = .returned (.tuple #[.slice none 0 0, errV E]) /\ Below w.heap.size w w' := by
 have HP := hide hpc
 rw [errV_pos _ hE] at HP ⊢
 clear hpc hE
 go_enter Tryz.func223, Tryz.ntmps223
 go_wp2_with fail
 refine (unhide HP).mono ?_
 rintro e w1 ⟨rfl, hb1⟩
 have HB := hide hb1
 clear hb1 HP
 go_wp2
 go_ret2
 exact ⟨rfl, unhide HB⟩
theorem hRead_yes (p g c B : Nat) (L : List Int) (h : Int) (x n : Nat) (w : World) (hh : Hp w B p g c L) (hc : chkE L h = 0) (hn : (x : Int) + n <= (entOf L h).2.2.1) :
  Calls Tryz.prog 223 #[.pointer (some ⟨p, 0, none⟩), .int .i64 h, .int .i64 x, .int .i64 n] w fun e w' => ∃ a' c', e = .returned (.tuple #[.slice a' n c', .nilIface]) /\ OwnV w' w.heap.size (.slice a' n c') ((L.drop ((entOf L h).2.1.toNat + x)).take n) /\ Below w.heap.size w w' := by
 have HP := hide (hPiece_yes p g c B L h x n w hh hc hn)
 have hen := hh.ent hc
 have hl := hh.len
 have hRl : ((L.drop ((entOf L h).2.1.toNat + x)).take n).length = n := by simp; omega
 generalize (L.drop ((entOf L h).2.1.toNat + x)).take n = R at *
 have HC := hide (fun (q : Option Addr) (c' : Nat) (W : World) (hb : Bs W q c' R) => bclone_any q c' R W hb)
 rw [hRl] at HC
 have hnl : n <= 1000 := by omega
 clear hh hc hen
 go_enter Tryz.func223, Tryz.ntmps223
 go_wp2_with fail
 refine (unhide HP).mono ?_
 rintro e w1 ⟨q, c', rfl, hbs, hq, hb1⟩
 have HC1 := hide (unhide HC q c' w1 hbs)
 have HB := hide hb1
 clear hb1 HP HC hbs hq
 go_wp2_with fail
 refine (unhide HC1).mono ?_
 rintro e w2 ⟨a', c2, rfl, hown, hb2⟩
 have HO := hide hown
 have HB2 := hide ((unhide HB).trans (hb2.mono (unhide HB).size))
 have HSZ := hide (unhide HB).size
 clear hown hb2 HC1 HB
 go_wp2
 go_ret2
 exact ⟨a', c2, rfl, (unhide HO).lower (unhide HSZ), unhide HB2⟩
theorem hRead_any (p g c B : Nat) (L : List Int) (h x n : Int) (w : World) (hh : Hp w B p g c L) (hx : x <= 9223372036854775807) (hn : n <= 9223372036854775807) :
  Calls Tryz.prog 223 #[.pointer (some ⟨p, 0, none⟩), .int .i64 h, .int .i64 x, .int .i64 n] w fun e w' => ∃ a' c', e = .returned (.tuple #[.slice a' (rdL L h x n).length c', errV (pcE L h x n)]) /\ OwnV w' w.heap.size (.slice a' (rdL L h x n).length c') (rdL L h x n) /\ Below w.heap.size w w' := by
 by_cases h0 : pcE L h x n = 0
 ·obtain ⟨h1, h2, h3, h4⟩ := pcE_zero.1 h0
  obtain ⟨X, rfl⟩ := Int.eq_ofNat_of_zero_le h2
  obtain ⟨N, rfl⟩ := Int.eq_ofNat_of_zero_le h3
  have hen := hh.ent h1
  have hl := hh.len
  have hR : rdL L h X N = (L.drop ((entOf L h).2.1.toNat + X)).take N := by unfold rdL; rw [if_pos h0, Int.toNat_natCast, Int.toNat_natCast]
  have hRl : (rdL L h X N).length = N := by rw [hR]; simp; omega
  rw [hRl, h0, errV_zero]
  refine (hRead_yes p g c B L h X N w hh h1 h4).mono fun e w' ⟨a', c', he, ho, hb⟩ => ⟨a', c', he, ?_, hb⟩
  rw [<- hR] at ho
  exact ho
 ·have hR : rdL L h x n = [] := by unfold rdL; rw [if_neg h0]
  rw [hR]
  by_cases h1 : chkE L h = 0
  ·have hbad : x < 0 \/ n < 0 \/ (entOf L h).2.2.1 < x + n := Classical.byContradiction fun hc => h0 (pcE_zero.2 ⟨h1, by omega, by omega, by omega⟩)
   have e3 : pcE L h x n = 3 := by unfold pcE; rw [if_neg (fun h => h h1), if_pos hbad]
   rw [e3]
   exact (hRead_no p g c B L h x n 3 w (by decide) (hPiece_shape p g c B L h x n w hh h1 hx hn hbad)).mono fun e w' ⟨he, hb⟩ => ⟨none, 0, he, OwnV.nil _ _, hb⟩
  ·have e3 : pcE L h x n = chkE L h := by unfold pcE; rw [if_pos h1]
   rw [e3]
   exact (hRead_no p g c B L h x n (chkE L h) w h1 (hPiece_no p g c B L h x n w hh h1)).mono fun e w' ⟨he, hb⟩ => ⟨none, 0, he, OwnV.nil _ _, hb⟩
theorem hWrite_no (p g c B : Nat) (L : List Int) (h x E : Int) (a : Option Addr) (n cap : Nat) (w : World) (hE : E ≠ 0) (hn : n <= 140737488351232) (hpc : Calls Tryz.prog 89 #[.pointer (some ⟨p, 0, none⟩), .int .i64 h, .int .i64 x, .int .i64 n] w fun e w' => e = .returned (.tuple #[.slice none 0 0, errV E]) /\ Below w.heap.size w w') :
  Calls Tryz.prog 44 #[.pointer (some ⟨p, 0, none⟩), .int .i64 h, .int .i64 x, .slice a n cap] w fun e w' => e = .returned (errV E) /\ Below w.heap.size w w' := by
 have HP := hide hpc
 rw [errV_pos _ hE] at HP ⊢
 clear hpc hE
 go_enter Tryz.func44, Tryz.ntmps44
 go_wp2_with fail
 refine (unhide HP).mono ?_
 rintro e w1 ⟨rfl, hb1⟩
 have HB := hide hb1
 clear hb1 HP
 go_wp2
 go_ret
 exact ⟨rfl, unhide HB⟩
set_option maxHeartbeats 1000000 in
theorem hWrite_yes (p g c B : Nat) (L : List Int) (h : Int) (x : Nat) (a : Option Addr) (cap : Nat) (l : List Int) (w : World) (hh : Hp w B p g c L) (hb : Bs w a cap l) (hc : chkE L h = 0) (hn : (x : Int) + l.length <= (entOf L h).2.2.1) :
  Calls Tryz.prog 44 #[.pointer (some ⟨p, 0, none⟩), .int .i64 h, .int .i64 x, .slice a l.length cap] w fun e w' => e = .returned .nilIface /\ Hp w' B p g c (splice L ((entOf L h).2.1.toNat + x) l) /\ Turn (foot p g) (foot p g) w w' := by
 have HP := hide (hPiece_yes p g c B L h x l.length w hh hc hn)
 obtain ⟨g1, g2, g3⟩ := chkE_zero.1 hc
 have g4 := hndB_iff.1 g2
 have hkeep := write_keep hh.fine g4.1 g4.2 g3 (p := x) (r := l) hn
 have hen := hh.ent hc
 have hl := hh.len
 have hbl := hb.2.2.1
 have HKE := hide hkeep.1
 have HH := hide hh
 have HBS := hide hb
 clear hh hc hkeep g1 g2 g3 g4 hb
 by_cases h0 : l = []
 ·subst h0
  have hself : splice L ((entOf L h).2.1.toNat + x) [] = L := by simp [splice]
  rw [hself]
  simp only [List.length_nil] at HP hn hbl ⊢
  clear HKE
  generalize (entOf L h).2.1.toNat + x = off at *
  go_enter Tryz.func44, Tryz.ntmps44
  go_wp2_with fail
  refine (unhide HP).mono ?_
  rintro e w1 ⟨q, c', rfl, hbs, hq, hb1⟩
  have HB := hide hb1
  have hcp : Sem.run Tryz.prog (Builtin.copy_ #[22, 22] 3 #[.slice q 0 c', .slice a 0 cap]) w1 = .ok (.int .i64 0) w1 := by
   have := run_copy_none (P := Tryz.prog) w1 22 22 3 5 q a 0 c' 0 cap Tryz.underlying22 size_u8 (by simp)
   simpa [goInt] using this
  clear hb1 HP hbs hq
  go_wp2
  go_ret
  exact ⟨rfl, (unhide HH).below (unhide HB), Turn.of_below (unhide HB)⟩
 ·have hpos : 0 < l.length := List.length_pos_iff.2 h0
  have hfit : (entOf L h).2.1.toNat + x + l.length <= L.length := by omega
  clear hen
  generalize (entOf L h).2.1.toNat + x = off at *
  go_enter Tryz.func44, Tryz.ntmps44
  go_wp2_with fail
  refine (unhide HP).mono ?_
  rintro e w1 ⟨q, c', rfl, hbs, hq, hb1⟩
  obtain rfl := hq hpos
  have hh1 := (unhide HH).below hb1
  obtain ⟨cur, hrow⟩ := hh1.row
  have hcp : Sem.run Tryz.prog (Builtin.copy_ #[22, 22] 3 #[.slice (some ⟨g, off, none⟩) l.length c', .slice a l.length cap]) w1 = .ok (.int .i64 l.length) (laidW w1 g cur off l) :=
   run_copy_laid w1 _ _ _ Tryz.underlying22 size_u8 _ g off _ _ c cur a cap L l (Nat.le_refl _) h0 hfit hrow ((unhide HBS).below hb1)
  have HLAY := hide (hh1.lay hrow hfit (unhide HBS).1 (unhide HKE))
  have HT := hide (Turn.of_below (S := foot p g) hb1)
  clear hb1 HP hbs hq hh1 hrow
  generalize laidW w1 g cur off l = w2 at *
  go_wp2
  go_ret
  exact ⟨rfl, (unhide HLAY).1, (unhide HT).trans (unhide HLAY).2⟩
theorem hWrite_any (p g c B : Nat) (L : List Int) (h x : Int) (a : Option Addr) (cap : Nat) (l : List Int) (w : World) (hh : Hp w B p g c L) (hb : Bs w a cap l) (hx : x <= 9223372036854775807) :
  Calls Tryz.prog 44 #[.pointer (some ⟨p, 0, none⟩), .int .i64 h, .int .i64 x, .slice a l.length cap] w fun e w' => e = .returned (errV (pcE L h x l.length)) /\ Hp w' B p g c (wrB L h x l) /\ Turn (foot p g) (foot p g) w w' := by
 have hbl := hb.2.2.1
 by_cases h0 : pcE L h x l.length = 0
 ·obtain ⟨h1, h2, h3, h4⟩ := pcE_zero.1 h0
  obtain ⟨X, rfl⟩ := Int.eq_ofNat_of_zero_le h2
  have hR : wrB L h X l = splice L ((entOf L h).2.1.toNat + X) l := by unfold wrB; rw [if_pos h0, Int.toNat_natCast]
  rw [hR, h0, errV_zero]
  exact hWrite_yes p g c B L h X a cap l w hh hb h1 h4
 ·have hR : wrB L h x l = L := by unfold wrB; rw [if_neg h0]
  rw [hR]
  by_cases h1 : chkE L h = 0
  ·have hbad : x < 0 \/ (l.length : Int) < 0 \/ (entOf L h).2.2.1 < x + l.length := Classical.byContradiction fun hc => h0 (pcE_zero.2 ⟨h1, by omega, by omega, by omega⟩)
   have e3 : pcE L h x l.length = 3 := by unfold pcE; rw [if_neg (fun h => h h1), if_pos hbad]
   rw [e3]
   exact (hWrite_no p g c B L h x 3 a l.length cap w (by decide) hbl (hPiece_shape p g c B L h x l.length w hh h1 hx (by omega) hbad)).mono fun e w' ⟨he, hb⟩ => ⟨he, hh.below hb, Turn.of_below hb⟩
  ·have e3 : pcE L h x l.length = chkE L h := by unfold pcE; rw [if_pos h1]
   rw [e3]
   exact (hWrite_no p g c B L h x (chkE L h) a l.length cap w h1 hbl (hPiece_no p g c B L h x l.length w hh h1)).mono fun e w' ⟨he, hb⟩ => ⟨he, hh.below hb, Turn.of_below hb⟩
end Go.Proofs.YtfbloliakmehbaaGreatDoor
namespace Go.Proofs.YtfbloliakmehbaaGreatDoor
open Go.RowKit
set_option linter.unusedVariables false
theorem free1_any (q : Nat) (s : ByteArray) (x h : Int) (w : World) (hq : w.cell? ⟨q, 0, none⟩ = some (.int .i64 h)) :
  Calls Tryz.prog 88 #[.agg #[.string s, .int .i64 x], .pointer (some ⟨q, 0, none⟩)] w fun e w' => e = .returned (.bool (x == h)) /\ Below w.heap.size w w' := by
 have hq2 : (w.alloc (.cells #[.string s, .int .i64 x] 76)).cell? ⟨q, 0, none⟩ = some (.int .i64 h) := (((Below.refl w.heap.size w).alloc (Nat.le_refl _) _).cell (block_lt_of_cell hq)).trans hq
 clear hq
 go_enter Tryz.func88, Tryz.ntmps88
 go_wp2
 go_ret
 exact ⟨rfl, (Below.refl _ _).alloc (Nat.le_refl _) _⟩
set_option maxHeartbeats 1000000 in
theorem rtIndex_any (q : Nat) (h : Int) (a : Option Addr) (cap : Nat) (l : List (ByteArray × Int)) (w : World) (hs : Sls roC 2 w a cap l) (hq : w.cell? ⟨q, 0, none⟩ = some (.int .i64 h)) :
  Calls Tryz.prog 136 #[.slice a l.length cap, .func (.func 88) #[] #[.pointer (some ⟨q, 0, none⟩)]] w fun e w' => ∃ i : Int, e = .returned (.int .i64 i) /\ decide (0 <= i) = l.any (fun r => r.2 == h) /\ Below w.heap.size w w' := by
 have hl := hs.2.2.1
 have HS := hide hs
 have HQ := hide hq
 clear hs hq
 go_enter Tryz.func136, Tryz.ntmps136
 go_wp2
 go_loopw [5, 8] (fun _ iv wr => ∃ k : Nat, k <= l.length /\ iv = .int .i64 k /\ (l.take k).any (fun r => r.2 == h) = false /\ Below w.heap.size w wr) (fun _ iv _ => l.length - (intOf iv).toNat)
 case atStart => exact ⟨0, Nat.zero_le _, rfl, rfl, Below.refl _ _⟩
 case round =>
  obtain ⟨k, hk, rfl, hall, hbel⟩ := hrel
  by_cases hlt : k < l.length
  ·have hne : l ≠ [] := by intro e; rw [e] at hlt; simp at hlt
   obtain ⟨b1, o1, rfl, hc1⟩ := ((unhide HS).below hbel).2.2.2 hne
   obtain ⟨f, hf⟩ : ∃ f, l[k]? = some f := ⟨l[k], List.getElem?_eq_getElem hlt⟩
   obtain ⟨q0, q1⟩ := Sls.root (cap := 0) hc1 hf
   have hq := (hbel.cell (block_lt_of_cell (unhide HQ))).trans (unhide HQ)
   obtain ⟨s, x⟩ := f
   have HC := hide (free1_any q s x h wr hq)
   have htk : l.take (k + 1) = l.take k ++ [(s, x)] := by rw [List.take_add_one, hf]; rfl
   have HTK := hide htk
   have HALL := hide hall
   have HMEM := hide (List.mem_of_getElem? hf)
   have HBEL := hide hbel
   dsimp only at *
   clear hc1 hf hne hq hall hbel htk
   cases hx : (x == h)
   ·have hnew : (l.take (k + 1)).any (fun r => r.2 == h) = false := by rw [unhide HTK, List.any_append, unhide HALL]; simp [hx]
    have HNEW := hide hnew
    rw [hx] at HC
    clear hnew hx
    go_wp2_with (go_at_call 88; refine (unhide HC).mono ?_; rintro e w1 ⟨rfl, hb1⟩; have HB1 := hide ((unhide HBEL).trans (hb1.mono (unhide HBEL).size)); clear hb1)
    go_roundw
    case rel => exact ⟨k + 1, by omega, by go_num, unhide HNEW, unhide HB1⟩
    case measure => simp [intOf]; omega
   ·have hnew : l.any (fun r => r.2 == h) = true := List.any_eq_true.2 ⟨_, unhide HMEM, hx⟩
    have HNEW := hide hnew
    rw [hx] at HC
    clear hnew hx
    go_wp2_with (go_at_call 88; refine (unhide HC).mono ?_; rintro e w1 ⟨rfl, hb1⟩; have HB1 := hide ((unhide HBEL).trans (hb1.mono (unhide HBEL).size)); clear hb1)
    go_ret
    exact ⟨k, rfl, by rw [unhide HNEW]; exact decide_eq_true (by omega), unhide HB1⟩
  ·obtain rfl : k = l.length := by omega
   rw [List.take_length] at hall
   have HALL := hide hall
   have HBEL := hide hbel
   clear hall hbel
   go_wp2
   go_ret
   exact ⟨-1, rfl, by rw [unhide HALL]; rfl, unhide HBEL⟩
theorem rtCont_any (q : Nat) (h : Int) (a : Option Addr) (cap : Nat) (l : List (ByteArray × Int)) (w : World) (hs : Sls roC 2 w a cap l) (hq : w.cell? ⟨q, 0, none⟩ = some (.int .i64 h)) :
  Calls Tryz.prog 87 #[.slice a l.length cap, .func (.func 88) #[] #[.pointer (some ⟨q, 0, none⟩)]] w fun e w' => e = .returned (.bool (l.any (fun r => r.2 == h))) /\ Below w.heap.size w w' := by
 have HI := hide (rtIndex_any q h a cap l w hs hq)
 generalize l.any (fun r => r.2 == h) = R at *
 generalize l.length = N at *
 clear hs hq
 go_enter Tryz.func87, Tryz.ntmps87
 go_wp2_with fail
 refine (unhide HI).mono ?_
 rintro e w1 ⟨i, rfl, hi, hb1⟩
 have HB := hide hb1
 have HR := hide hi
 clear hb1 hi HI
 go_wp2
 go_ret
 exact ⟨by rw [<- unhide HR]; rfl, unhide HB⟩
set_option maxHeartbeats 1000000 in
theorem hFree_no (p g c B : Nat) (L : List Int) (h : Int) (w : World) (hh : Hp w B p g c L) (hc : chkE L h ≠ 0) :
  Calls Tryz.prog 43 #[.pointer (some ⟨p, 0, none⟩), .int .i64 h] w fun e w' => e = .returned (errV (chkE L h)) /\ Below w.heap.size w w' := by
 have hB0 : Below w.heap.size w (w.alloc (.cells #[.int .i64 h] 3)) := (Below.refl _ _).alloc (Nat.le_refl _) _
 have hcl := (hh.below hB0).cell
 have hnew : (w.alloc (.cells #[.int .i64 h] 3)).cell? ⟨w.heap.size, 0, none⟩ = some (.int .i64 h) := by rw [cell_of_row _ _ _ _ _ _ (heap_alloc_new w _)]; rfl
 have hd := drop_any (some ⟨g, 0, none⟩) c L h (w.alloc (.cells #[.int .i64 h] 3)).drew (hh.bs.below (below_drew hB0))
 rw [errV_pos _ hc] at hd ⊢
 have HD : Hid (Calls Tryz.prog 86 #[.slice (some ⟨g, 0, none⟩) L.length c, .int .i64 h] (w.alloc (.cells #[.int .i64 h] 3)).drew fun e w' => ∃ a' c', e = .returned (.tuple #[.slice a' (dropL L h).length c', .iface 64 (.int .i64 (chkE L h))]) /\ Below w.heap.size w w' /\ w'.cell? ⟨p, 0, none⟩ = some (.slice (some ⟨g, 0, none⟩) L.length c) /\ w'.cell? ⟨w.heap.size, 0, none⟩ = some (.int .i64 h)) := hide (hd.mono fun e w' ⟨a', c', he, hbs, hb⟩ => ⟨a', c', he, (below_drew hB0).trans (hb.mono (below_drew hB0).size), (hb.cell (p := ⟨p, 0, none⟩) (block_lt_of_cell hcl)).trans hcl, (hb.cell (p := ⟨w.heap.size, 0, none⟩) (block_lt_of_cell hnew)).trans hnew⟩)
 have hl := hh.len
 clear hh hc hd
 generalize (dropL L h).length = D at *
 generalize chkE L h = X at *
 generalize L.length = N at *
 go_enter Tryz.func43, Tryz.ntmps43
 go_wp2_with fail
 generalize w.alloc (.cells #[.int .i64 h] 3) = wx at *
 go_region_held3 (fun w' => w'.cell? ⟨p, 0, none⟩ = some (.slice (some ⟨g, 0, none⟩) N c) /\ w'.cell? ⟨w.heap.size, 0, none⟩ = some (.int .i64 h)) (first | go_keep | (go_split_ands; refine ⟨?_, ?_⟩ <;> go_keep))
  ((go_at_call 86; refine (unhide HD).mono ?_; rintro e w1 ⟨a', c', rfl, hb1, r0, r1⟩))
 have HB := hide hb1
 clear hb1 HD
 go_wp2
 go_ret
 exact ⟨rfl, unhide HB⟩
set_option maxHeartbeats 2000000 in
theorem hFree_go (p g c B : Nat) (L : List Int) (h : Int) (w : World) (hh : Hp w B p g c L) (hB : B <= w.heap.size) (hc : chkE L h = 0) (R : Bool) (hR : (rootsK L 8).any (fun r => r.2 == h) = R) :
  Calls Tryz.prog 43 #[.pointer (some ⟨p, 0, none⟩), .int .i64 h] w fun e w' => e = .returned (errV (frE L h)) /\ ∃ g' c', Hp w' B p g' c' (frB L h) /\ Turn (foot p g) (foot p g') w w' := by
 have hB0 : Below w.heap.size w (w.alloc (.cells #[.int .i64 h] 3)) := (Below.refl _ _).alloc (Nat.le_refl _) _
 have hcl := (hh.below hB0).cell
 have hnew : (w.alloc (.cells #[.int .i64 h] 3)).cell? ⟨w.heap.size, 0, none⟩ = some (.int .i64 h) := by rw [cell_of_row _ _ _ _ _ _ (heap_alloc_new w _)]; rfl
 have hd := drop_row (some ⟨g, 0, none⟩) c L h (w.alloc (.cells #[.int .i64 h] 3)).drew (hh.bs.below (below_drew hB0)) hc
 obtain ⟨g1, g2, g3⟩ := chkE_zero.1 hc
 have g4 := hndB_iff.1 g2
 have hp5 := plc_le g4.1 g4.2
 have hlen := hh.len
 have hdl : (dropL L h).length = L.length := by
  unfold dropL
  rw [if_pos hc, length_splice (by rw [length_zerosB]; omega)]
 have hby := byt_drop hh.byt h
 have HD : Hid (Calls Tryz.prog 86 #[.slice (some ⟨g, 0, none⟩) L.length c, .int .i64 h] (w.alloc (.cells #[.int .i64 h] 3)).drew fun e w' => ∃ g' c' cur', e = .returned (.tuple #[.slice (some ⟨g', 0, none⟩) L.length c', .nilIface]) /\ Row w' w.heap.size g' c' cur' (dropL L h) /\ Below w.heap.size w w' /\ w'.cell? ⟨p, 0, none⟩ = some (.slice (some ⟨g, 0, none⟩) L.length c) /\ w'.cell? ⟨w.heap.size, 0, none⟩ = some (.int .i64 h)) := hide (hd.mono fun e w' ⟨g', c', cur', he, hr, hb⟩ => ⟨g', c', cur', by rw [he, hdl], hr.low (below_drew hB0).size, (below_drew hB0).trans (hb.mono (below_drew hB0).size), (hb.cell (p := ⟨p, 0, none⟩) (block_lt_of_cell hcl)).trans hcl, (hb.cell (p := ⟨w.heap.size, 0, none⟩) (block_lt_of_cell hnew)).trans hnew⟩)
 have HRT := hide (fun (W : World) (hW : Below w.heap.size w W) => iRoots_yes (some ⟨g, 0, none⟩) c L W (hh.bs.below hW) hh.fine.len0)
 have hrl := rootsK_len L 8
 have HCT := hide (fun (a : Option Addr) (cap : Nat) (W : World) (hs : Sls roC 2 W a cap (rootsK L 8)) (hq : W.cell? ⟨w.heap.size, 0, none⟩ = some (.int .i64 h)) => rtCont_any w.heap.size h a cap (rootsK L 8) W hs hq)
 rw [hR] at HCT
 have HFE : Hid (R = true -> frE L h = 7 /\ frB L h = L) := hide (fun e => by
  have e1 : frE L h = 7 := by unfold frE; rw [if_neg (fun h => h hc), if_pos (hR.trans e)]
  exact ⟨e1, by unfold frB; rw [e1]; rfl⟩)
 have HFN : Hid (R = false -> frE L h = 0 /\ frB L h = dropL L h /\ Fine (dropL L h)) := hide (fun e => by
  have e1 : frE L h = 0 := frE_zero.2 ⟨hc, hR.trans e⟩
  exact ⟨e1, by unfold frB; rw [if_pos e1], drop_ok hh.fine e1⟩)
 have HH := hide hh
 have HBY := hide hby
 have HDL := hide hdl
 clear hh hc hd hby hdl hR g1 g2 g3 g4 hp5
 generalize frE L h = FE at *
 generalize frB L h = FB at *
 generalize dropL L h = DL at *
 generalize rootsK L 8 = RT at *
 generalize hN : L.length = N at *
 go_enter Tryz.func43, Tryz.ntmps43
 go_wp2_with fail
 generalize w.alloc (.cells #[.int .i64 h] 3) = wx at *
 go_region_held3 (fun w' => w'.cell? ⟨p, 0, none⟩ = some (.slice (some ⟨g, 0, none⟩) N c) /\ w'.cell? ⟨w.heap.size, 0, none⟩ = some (.int .i64 h)) (first | go_keep | (go_split_ands; refine ⟨?_, ?_⟩ <;> go_keep))
  ((go_at_call 86; refine (unhide HD).mono ?_; rintro e w1 ⟨g', c', cur', rfl, hr1, hb1, r0, r1⟩))
 have HR1 := hide hr1
 have HRT1 := hide (unhide HRT w1 hb1)
 have HB1 := hide hb1
 have HQ1 := hide r1
 clear hb1 hr1 HD HRT hcl hnew hB0
 go_wp2_with fail
 refine (unhide HRT1).mono ?_
 rintro e w2 ⟨v2, rfl, hown2, hb2⟩
 obtain ⟨a2, c2, rfl, hsl2⟩ := hown2.sls roC_len (by omega)
 have hq2 := (hb2.cell (p := ⟨w.heap.size, 0, none⟩) (block_lt_of_cell (unhide HQ1))).trans (unhide HQ1)
 have HCT2 := hide (unhide HCT a2 c2 w2 hsl2 hq2)
 have HR2 := hide ((unhide HR1).below hb2)
 have HB2 := hide ((unhide HB1).trans (hb2.mono (unhide HB1).size))
 clear hown2 hsl2 hb2 hq2 HRT1 HR1 HB1 HQ1 r0 r1 HCT
 go_wp2_with fail
 refine (unhide HCT2).mono ?_
 rintro e w3 ⟨rfl, hb3⟩
 have hB3 := (unhide HB2).trans (hb3.mono (unhide HB2).size)
 have hr3 := (unhide HR2).below hb3
 cases R with
 | true =>
  have HB3 := hide hB3
  have HE1 := hide (unhide HFE rfl).1
  have HE2 := hide (unhide HFE rfl).2
  clear hb3 hr3 hB3 HCT2 HR2 HB2 HFE HFN
  go_wp2
  go_ret
  refine ⟨by rw [unhide HE1]; rfl, g, c, ?_, Turn.of_below (unhide HB3)⟩
  rw [unhide HE2]
  exact (unhide HH).below (unhide HB3)
 | false =>
  obtain ⟨e1, e2, e3⟩ := unhide HFN rfl
  have HSET := hide ((unhide HH).set hB3 hr3 (unhide HBY) e3 hB)
  rw [unhide HDL] at HSET
  have hcl3 := ((unhide HH).below hB3).cell
  rw [hN] at hcl3
  have hfr3 := ((unhide HH).below hB3).fr
  have HE1 := hide e1
  have HE2 := hide e2
  clear hb3 hr3 hB3 HCT2 HR2 HB2 HH HFE HFN e1 e2 e3
  go_wp2
  go_ret
  refine ⟨by rw [unhide HE1]; rfl, g', c', ?_⟩
  rw [unhide HE2]
  exact unhide HSET
theorem hFree_any (p g c B : Nat) (L : List Int) (h : Int) (w : World) (hh : Hp w B p g c L) (hB : B <= w.heap.size) :
  Calls Tryz.prog 43 #[.pointer (some ⟨p, 0, none⟩), .int .i64 h] w fun e w' => e = .returned (errV (frE L h)) /\ ∃ g' c', Hp w' B p g' c' (frB L h) /\ Turn (foot p g) (foot p g') w w' := by
 by_cases hc : chkE L h = 0
 ·exact hFree_go p g c B L h w hh hB hc _ rfl
 ·have e1 : frE L h = chkE L h := by unfold frE; rw [if_pos hc]
  have e2 : frB L h = L := by unfold frB; rw [e1, if_neg hc]
  rw [e1, e2]
  exact (hFree_no p g c B L h w hh hc).mono fun e w' ⟨he, hb⟩ => ⟨he, g, c, hh.below hb, Turn.of_below hb⟩
section
variable {w w' : World} {B p g c : Nat} {L : List Int}
set_option maxRecDepth 100000 in
theorem hReplace_yes (h : Hp w B p g c L) (hB : B <= w.heap.size) {a : Option Addr} {cap : Nat} {I : List Int} (hbs : Bs w a cap I) (hf : Fine I) (hl : I.length = L.length) :
  Calls Tryz.prog 96 #[.pointer (some ⟨p, 0, none⟩), .slice a I.length cap] w fun e w' => e = .returned .nilIface /\ ∃ g' c', Hp w' B p g' c' I /\ Turn (foot p g) (foot p g') w w' := by
 have HL := hide (hLoad_yes a cap I w hbs hf)
 have HH := hide h
 have hc := h.cell
 have hln := h.len
 have HBY := hide hbs.1
 have HF := hide hf
 rw [<- hl] at hc hln
 clear h hbs hf hl
 obtain ⟨N, hN⟩ : ∃ N, I.length = N := ⟨_, rfl⟩
 rw [hN] at hc hln HL ⊢
 have HN := hide hN
 clear hN
 go_enter Tryz.func96, Tryz.ntmps96
 go_wp2_with fail
 refine (unhide HL).mono ?_
 rintro e w1 ⟨p1, g1, c1, rfl, hh1, hb1⟩
 have hc1 := hh1.cell
 have hblk1 := (hb1.block p (unhide HH).plt).trans (unhide HH).blk
 have hfr1 : w1.frozen? ⟨p, 0, none⟩ = false := frozen_of_row _ _ 0 _ _ hblk1
 have hcc := (hb1.cell (p := ⟨p, 0, none⟩) (unhide HH).plt).trans hc
 have HSET : Hid (Hp (w1.setCell ⟨p, 0, none⟩ (.slice (some ⟨g1, 0, none⟩) N c1)) B p g1 c1 I /\ Turn (foot p g) (foot p g1) w (w1.setCell ⟨p, 0, none⟩ (.slice (some ⟨g1, 0, none⟩) N c1))) := hide (by
  obtain ⟨cur, hr⟩ := hh1.row
  rw [<- unhide HN]
  exact (unhide HH).set hb1 hr (unhide HBY) (unhide HF) hB)
 rw [unhide HN] at hc1
 clear hh1 hblk1 hb1 HL HH HBY HF HN hc
 go_wp2
 go_ret
 exact ⟨rfl, g1, c1, (unhide HSET).1, (unhide HSET).2⟩
end
end Go.Proofs.YtfbloliakmehbaaGreatDoor
