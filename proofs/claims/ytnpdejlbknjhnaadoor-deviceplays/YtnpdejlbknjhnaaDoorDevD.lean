/-
  Contracts of package device: Crash. (Part of the proofs over package device.)
-/
import Derived.Test.YtnpdejlbknjhnaaDoorDevC
namespace Go.Proofs.YtnpdejlbknjhnaaDoor
open Go.RowKit
set_option linter.unusedVariables false

/-- The slice '.slice a l.length cap' of bools reads in w as l. -/
def Bls (w : World) (a : Option Addr) (cap : Nat) (l : List Bool) : Prop :=
  l.length ≤ cap ∧ l.length ≤ 140737488351232 ∧ (l ≠ [] → ∃ b off, a = some ⟨b, off, none⟩ ∧ ∀ i, i < l.length → w.cell? ⟨b, off + i, none⟩ = some (.bool (l.getD i false)))
theorem Bls.turn {w w' : World} {S S' : Nat → Prop} {a : Option Addr} {cap : Nat} {l : List Bool} (h : Bls w a cap l) (ht : Turn S S' w w') (hn : ∀ x, a = some x → ¬ S x.block) : Bls w' a cap l := by
  obtain ⟨h1, h2, h5⟩ := h
  refine ⟨h1, h2, fun hne => ?_⟩
  obtain ⟨b, off, rfl, hc⟩ := h5 hne
  refine ⟨b, off, rfl, fun i hi => ?_⟩
  have h6 := hc i hi
  rw [← h6]
  exact World.cell?_of_block (a := ⟨b, off + i, none⟩) (ht.block b (block_lt_of_cell h6) (hn _ rfl))

/-- A cut, made from 0 to 32. -/
def cutN (c : Int) : Nat := (min (max c 0) 32).toNat
theorem cutN_le (c : Int) : cutN c ≤ 32 := by unfold cutN; omega
theorem cutN_eq (c : Int) : min (max c 0) 32 = (cutN c : Int) := by unfold cutN; omega

theorem set_getD_self (l : List (List Int)) (i : Nat) : l.set i (l.getD i []) = l := by
  by_cases h : i < l.length
  · have : l.getD i [] = l[i] := by simp [List.getD, h]
    rw [this]; exact List.set_getElem_self h
  · exact List.set_eq_of_length_le (by omega)

section
variable {w : World} {p : Nat} {S : Nat → Prop} {D : DS}

/-- What a round of the crash makes of the sectors. -/
theorem crashK_succ {secs : List (List Int)} {mem : List (Nat × List Int)} (keep : List Bool) (torn : Int) (cut k ky : Nat) (bd : List Int) (h : mem.getD k (0, []) = (ky, bd)) :
    crashK secs mem keep torn cut (k + 1) = (crashK secs mem keep torn cut k).set ky (one keep torn cut k ((crashK secs mem keep torn cut k).getD ky []) bd) := by
  show (crashK secs mem keep torn cut k).set (mem.getD k (0, [])).1 (one keep torn cut k ((crashK secs mem keep torn cut k).getD (mem.getD k (0, [])).1 []) (mem.getD k (0, [])).2) = _
  rw [h]

set_option maxHeartbeats 1000000 in
theorem crash_some {sb bm : Nat} {pv : Value} (b off cap : Nat) (keep : List Bool) (torn cut : Int) (h : DevAt w p sb bm pv S D) (hk : keep.length ≤ 140737488351232) (hc : ∀ i, i < keep.length → w.cell? ⟨b, off + i, none⟩ = some (.bool (keep.getD i false))) (hn : ¬ S b) :
    Calls Tryd.prog 14 #[.pointer (some ⟨p, 0, none⟩), .slice (some ⟨b, off, none⟩) keep.length cap, .int .i64 torn, .int .i64 cut] w fun e w' => e = .returned (.int .i64 D.mem.length) ∧ (∃ S', Dev w' p S' (D.crash keep torn (cutN cut)) ∧ Turn S S' w w') := by
  have c2 := h.c2
  have hml := h.ok.mem_len
  have H := hide h
  obtain ⟨m, hm⟩ : ∃ m : Int, (if cut < 0 then (0 : Int) else cut) = m := ⟨_, rfl⟩
  have hm2 : (if 32 < m then (32 : Int) else m) = (cutN cut : Int) := by rw [← cutN_eq, ← hm]; omega
  have hc32 := cutN_le cut
  generalize cutN cut = c at *
  rcases h.pv_cases with ⟨rfl, hm0⟩ | ⟨g, pc, rfl, hcap, hcm, hcell⟩
  · clear h
    have hcr : D.crash keep torn c = { D with mem := [], down := false, left := -1 } := by unfold DS.crash; rw [hm0]; rfl
    have hl0 : D.mem.length = 0 := by rw [hm0]; rfl
    have HCR := hide hcr
    have HL0 := hide hl0
    clear hcr hl0 hm0
    go_enter Tryd.func14, Tryd.ntmps14
    go_wp2_with fail
    go_loop [20] (fun v => v = .int .i64 0) (fun _ => 0)
    case atStart => rfl
    case round =>
      subst hrel
      go_wp2_with fail
      refine (forget_any (unhide H)).mono ?_
      rintro e w2 ⟨rfl, h2, ht2⟩
      have c4 := h2.c4
      have f4 := h2.fr 4
      have h3 := h2.setDown false
      have c3 := h3.c3
      have f3 := h3.fr 3
      have h4 := h3.setLeft (-1) (by decide)
      have H4 := hide h4
      have HI := hide h2.inp
      clear h2 h3 h4 H
      go_wp2
      go_ret
      exact ⟨by rw [unhide HL0]; rfl, S, ⟨sb, bm, _, by rw [unhide HCR]; exact unhide H4⟩, ht2.trans ((Turn.setCell _ _ (unhide HI)).trans (Turn.setCell _ _ (unhide HI)))⟩
  · clear h hcell
    unfold maxLen at hcm
    have hlb : 0 < keep.length → b < w.heap.size := fun h0 => block_lt_of_cell (hc 0 h0)
    go_enter Tryd.func14, Tryd.ntmps14
    go_wp2_with fail
    go_loopw [20] (fun v wr => ∃ k : Nat, k ≤ D.mem.length ∧ v = .int .i64 k ∧ DevAt wr p sb bm (.slice (some ⟨g, 0, none⟩) D.mem.length pc) S { D with secs := crashK D.secs D.mem keep torn c k } ∧ Turn S S w wr) (fun v _ => D.mem.length - (intOf v).toNat)
    case atStart => exact ⟨0, Nat.zero_le _, rfl, unhide H, Turn.refl _ _⟩
    case round =>
      obtain ⟨k, hkl, rfl, hd, htr⟩ := hrel
      clear hm hm2 c2
      by_cases hlt : k < D.mem.length
      · obtain ⟨ky, bd, hkb⟩ : ∃ ky bd, D.mem.getD k (0, []) = (ky, bd) := ⟨_, _, rfl⟩
        have hpc := hd.pend_cell k hlt
        have hpm : D.mem.getD k (0, []) ∈ D.mem := pair_mem hlt
        have hlk := lookup_at hd.ok.apart hlt
        have hset0 := crashK_succ (secs := D.secs) keep torn c k ky bd hkb
        simp only [hkb] at hpc hpm hlk
        have hq := hd.ok.mem _ hpm
        by_cases h1 : (k : Int) = torn
        · have hone : ∀ s, one keep torn c k s bd = bd.take c ++ s.drop c := fun s => by unfold one; rw [if_pos h1]; rfl
          rw [hone] at hset0
          have hbr := bring_any ky c bd hd hq.1 hc32 hlk
          have HB := hide hbr
          have HS := hide hset0
          have HTR := hide htr
          clear hbr hset0 htr hd hpm hlk hq hkb H hone hc
          subst h1
          go_wp2_with fail
          refine (unhide HB).mono ?_
          rintro e w2 ⟨rfl, hd2, ht2⟩
          go_wp2
          go_roundw
          case rel => exact ⟨k + 1, by omega, by go_num, by rw [unhide HS]; exact hd2, (unhide HTR).trans ht2⟩
          case measure => simp [intOf]; omega
        · by_cases h2 : k < keep.length
          · have hkc : wr.cell? ⟨b, off + k, none⟩ = some (.bool (keep.getD k false)) := (World.cell?_of_block (a := ⟨b, off + k, none⟩) (htr.block b (hlb (by omega)) hn)).trans (hc k h2)
            have h2' : (k : Int) < (keep.length : Int) := by omega
            by_cases h3 : keep.getD k false = true
            · have hone : ∀ s, one keep torn c k s bd = bd := fun s => by unfold one; rw [if_neg h1, if_pos h3]
              rw [hone] at hset0
              rw [h3] at hkc
              have hbr := bring_any ky 32 bd hd hq.1 (Nat.le_refl _) hlk
              rw [take_drop_sec (sec_getD hd.ok.sec hq.1) hq.2] at hbr
              have HB := hide hbr
              have HS := hide hset0
              have HTR := hide htr
              clear hbr hset0 htr hd hpm hlk hq hkb H hone hc h3
              go_wp2_with fail
              refine (unhide HB).mono ?_
              rintro e w2 ⟨rfl, hd2, ht2⟩
              go_wp2
              go_roundw
              case rel => exact ⟨k + 1, by omega, by go_num, by rw [unhide HS]; exact hd2, (unhide HTR).trans ht2⟩
              case measure => simp [intOf]; omega
            · have h3' : keep.getD k false = false := by simpa using h3
              have hone : ∀ s, one keep torn c k s bd = s := fun s => by unfold one; rw [if_neg h1, if_neg h3]
              rw [hone, set_getD_self] at hset0
              rw [h3'] at hkc
              have HS := hide hset0
              have HTR := hide htr
              have HD := hide hd
              clear hset0 htr hd hpm hlk hq hkb H hone hc h3 h3'
              go_wp2
              go_roundw
              case rel => exact ⟨k + 1, by omega, by go_num, by rw [unhide HS]; exact unhide HD, unhide HTR⟩
              case measure => simp [intOf]; omega
          · have h3' : keep.getD k false = false := by simp [List.getD, List.getElem?_eq_none (by omega : keep.length ≤ k)]
            have h2' : ¬ (k : Int) < (keep.length : Int) := by omega
            have hone : ∀ s, one keep torn c k s bd = s := fun s => by unfold one; rw [if_neg h1, if_neg (by rw [h3']; exact Bool.false_ne_true)]
            rw [hone, set_getD_self] at hset0
            have HS := hide hset0
            have HTR := hide htr
            have HD := hide hd
            clear hset0 htr hd hpm hlk hq hkb H hone hc h3'
            go_wp2
            go_roundw
            case rel => exact ⟨k + 1, by omega, by go_num, by rw [unhide HS]; exact unhide HD, unhide HTR⟩
            case measure => simp [intOf]; omega
      · obtain rfl : k = D.mem.length := by omega
        have c2' := hd.c2
        clear H hc
        go_wp2_with fail
        refine (forget_any hd).mono ?_
        rintro e w2 ⟨rfl, h2, ht2⟩
        have c4 := h2.c4
        have f4 := h2.fr 4
        have h3 := h2.setDown false
        have c3 := h3.c3
        have f3 := h3.fr 3
        have h4 := h3.setLeft (-1) (by decide)
        have H4 := hide h4
        have HI := hide h2.inp
        clear h2 h3 h4 hd
        go_wp2
        go_ret
        exact ⟨rfl, S, ⟨sb, bm, _, unhide H4⟩, htr.trans (ht2.trans ((Turn.setCell _ _ (unhide HI)).trans (Turn.setCell _ _ (unhide HI))))⟩

set_option maxHeartbeats 1000000 in
theorem crash_nil {sb bm : Nat} {pv : Value} (a : Option Addr) (cap : Nat) (torn cut : Int) (h : DevAt w p sb bm pv S D) :
    Calls Tryd.prog 14 #[.pointer (some ⟨p, 0, none⟩), .slice a 0 cap, .int .i64 torn, .int .i64 cut] w fun e w' => e = .returned (.int .i64 D.mem.length) ∧ (∃ S', Dev w' p S' (D.crash ([] : List Bool) torn (cutN cut)) ∧ Turn S S' w w') := by
  have c2 := h.c2
  have hml := h.ok.mem_len
  have H := hide h
  obtain ⟨m, hm⟩ : ∃ m : Int, (if cut < 0 then (0 : Int) else cut) = m := ⟨_, rfl⟩
  have hm2 : (if 32 < m then (32 : Int) else m) = (cutN cut : Int) := by rw [← cutN_eq, ← hm]; omega
  have hc32 := cutN_le cut
  generalize cutN cut = c at *
  rcases h.pv_cases with ⟨rfl, hm0⟩ | ⟨g, pc, rfl, hcap, hcm, hcell⟩
  · clear h
    have hcr : D.crash ([] : List Bool) torn c = { D with mem := [], down := false, left := -1 } := by unfold DS.crash; rw [hm0]; rfl
    have hl0 : D.mem.length = 0 := by rw [hm0]; rfl
    have HCR := hide hcr
    have HL0 := hide hl0
    clear hcr hl0 hm0
    go_enter Tryd.func14, Tryd.ntmps14
    go_wp2_with fail
    go_loop [20] (fun v => v = .int .i64 0) (fun _ => 0)
    case atStart => rfl
    case round =>
      subst hrel
      go_wp2_with fail
      refine (forget_any (unhide H)).mono ?_
      rintro e w2 ⟨rfl, h2, ht2⟩
      have c4 := h2.c4
      have f4 := h2.fr 4
      have h3 := h2.setDown false
      have c3 := h3.c3
      have f3 := h3.fr 3
      have h4 := h3.setLeft (-1) (by decide)
      have H4 := hide h4
      have HI := hide h2.inp
      clear h2 h3 h4 H
      go_wp2
      go_ret
      exact ⟨by rw [unhide HL0]; rfl, S, ⟨sb, bm, _, by rw [unhide HCR]; exact unhide H4⟩, ht2.trans ((Turn.setCell _ _ (unhide HI)).trans (Turn.setCell _ _ (unhide HI)))⟩
  · clear h hcell
    unfold maxLen at hcm
    go_enter Tryd.func14, Tryd.ntmps14
    go_wp2_with fail
    go_loopw [20] (fun v wr => ∃ k : Nat, k ≤ D.mem.length ∧ v = .int .i64 k ∧ DevAt wr p sb bm (.slice (some ⟨g, 0, none⟩) D.mem.length pc) S { D with secs := crashK D.secs D.mem ([] : List Bool) torn c k } ∧ Turn S S w wr) (fun v _ => D.mem.length - (intOf v).toNat)
    case atStart => exact ⟨0, Nat.zero_le _, rfl, unhide H, Turn.refl _ _⟩
    case round =>
      obtain ⟨k, hkl, rfl, hd, htr⟩ := hrel
      clear hm hm2 c2
      by_cases hlt : k < D.mem.length
      · obtain ⟨ky, bd, hkb⟩ : ∃ ky bd, D.mem.getD k (0, []) = (ky, bd) := ⟨_, _, rfl⟩
        have hpc := hd.pend_cell k hlt
        have hpm : D.mem.getD k (0, []) ∈ D.mem := pair_mem hlt
        have hlk := lookup_at hd.ok.apart hlt
        have hset0 := crashK_succ (secs := D.secs) ([] : List Bool) torn c k ky bd hkb
        simp only [hkb] at hpc hpm hlk
        have hq := hd.ok.mem _ hpm
        by_cases h1 : (k : Int) = torn
        · have hone : ∀ s, one ([] : List Bool) torn c k s bd = bd.take c ++ s.drop c := fun s => by unfold one; rw [if_pos h1]; rfl
          rw [hone] at hset0
          have hbr := bring_any ky c bd hd hq.1 hc32 hlk
          have HB := hide hbr
          have HS := hide hset0
          have HTR := hide htr
          clear hbr hset0 htr hd hpm hlk hq hkb H hone
          subst h1
          go_wp2_with fail
          refine (unhide HB).mono ?_
          rintro e w2 ⟨rfl, hd2, ht2⟩
          go_wp2
          go_roundw
          case rel => exact ⟨k + 1, by omega, by go_num, by rw [unhide HS]; exact hd2, (unhide HTR).trans ht2⟩
          case measure => simp [intOf]; omega
        · have h3' : ([] : List Bool).getD k false = false := rfl
          have h2' : ¬ (k : Int) < 0 := by omega
          have hone : ∀ s, one ([] : List Bool) torn c k s bd = s := fun s => by unfold one; rw [if_neg h1, if_neg (by rw [h3']; exact Bool.false_ne_true)]
          rw [hone, set_getD_self] at hset0
          have HS := hide hset0
          have HTR := hide htr
          have HD := hide hd
          clear hset0 htr hd hpm hlk hq hkb H hone h3'
          go_wp2
          go_roundw
          case rel => exact ⟨k + 1, by omega, by go_num, by rw [unhide HS]; exact unhide HD, unhide HTR⟩
          case measure => simp [intOf]; omega
      · obtain rfl : k = D.mem.length := by omega
        have c2' := hd.c2
        clear H
        go_wp2_with fail
        refine (forget_any hd).mono ?_
        rintro e w2 ⟨rfl, h2, ht2⟩
        have c4 := h2.c4
        have f4 := h2.fr 4
        have h3 := h2.setDown false
        have c3 := h3.c3
        have f3 := h3.fr 3
        have h4 := h3.setLeft (-1) (by decide)
        have H4 := hide h4
        have HI := hide h2.inp
        clear h2 h3 h4 hd
        go_wp2
        go_ret
        exact ⟨rfl, S, ⟨sb, bm, _, unhide H4⟩, htr.trans (ht2.trans ((Turn.setCell _ _ (unhide HI)).trans (Turn.setCell _ _ (unhide HI))))⟩

theorem crash_any (a : Option Addr) (cap : Nat) (keep : List Bool) (torn cut : Int) (h : Dev w p S D) (hb : Bls w a cap keep) (hn : keep ≠ [] → ∀ x, a = some x → ¬ S x.block) :
    Calls Tryd.prog 14 #[.pointer (some ⟨p, 0, none⟩), .slice a keep.length cap, .int .i64 torn, .int .i64 cut] w fun e w' => e = .returned (.int .i64 D.mem.length) ∧ (∃ S', Dev w' p S' (D.crash keep torn (cutN cut)) ∧ Turn S S' w w') := by
  obtain ⟨sb, bm, pv, h⟩ := h
  by_cases h0 : keep = []
  · subst h0
    exact crash_nil a cap torn cut h
  · obtain ⟨b, off, rfl, hc⟩ := hb.2.2 h0
    exact crash_some b off cap keep torn cut h hb.2.1 hc (hn h0 _ rfl)
end
end Go.Proofs.YtnpdejlbknjhnaaDoor
