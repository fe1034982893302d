/-
  Contracts of package device: Write, Flush. (Part of the proofs over package device.)
-/
import Derived.Test.YtnpdejlbknjhnaaDoorDevB
namespace Go.Proofs.YtnpdejlbknjhnaaDoor
open Go.RowKit
set_option linter.unusedVariables false

section
variable {w : World} {p : Nat} {S : Nat → Prop} {D : DS}

theorem remember_any {sb bm : Nat} {pv : Value} (i : Nat) (a : Option Addr) (cap : Nat) (l : List Int) (h : DevAt w p sb bm pv S D) (hi : i < D.secs.length) (hb : Bs w a cap l) (hl : l.length = 32) (hn : ∀ x, a = some x → ¬ S x.block) :
    Calls Tryd.prog 29 #[.pointer (some ⟨p, 0, none⟩), .int .i64 i, .slice a 32 cap] w fun e w' => e = .returned (.tuple #[]) ∧ (∃ pv' S', DevAt w' p sb bm pv' S' (D.put i l) ∧ Turn S S' w w') := by
  cases hc : D.mem.lookup i with
  | none => exact remember_new i a cap l h hi hb hl hn hc
  | some c => exact remember_old i a cap l h hi hb hl hn c hc

theorem write_any (i : Int) (a : Option Addr) (cap : Nat) (l : List Int) (h : Dev w p S D) (hb : Bs w a cap l) (hn : l ≠ [] → ∀ x, a = some x → ¬ S x.block) :
    Calls Tryd.prog 8 #[.pointer (some ⟨p, 0, none⟩), .int .i64 i, .slice a l.length cap] w fun e w' => e = .returned (errV (D.writeE i l)) ∧ (∃ S', Dev w' p S' (D.write i l) ∧ Turn S S' w w') := by
  obtain ⟨sb, bm, pv, h⟩ := h
  have hlen := hb.2.2.1
  have c4 := h.c4
  have hhas := has_any i h
  unfold DS.writeE DS.write
  by_cases h1 : i < 0 ∨ (D.secs.length : Int) ≤ i
  · rw [if_pos h1, if_pos (by rcases h1 with h1 | h1; exact .inl h1; exact .inr (.inl h1))]
    have hf : hasB D.secs.length i = false := decide_eq_false (by omega)
    rw [hf] at hhas
    have H := hide h
    have HH := hide hhas
    clear h hhas h1 hf c4
    go_enter Tryd.func8, Tryd.ntmps8
    go_wp2_with fail
    refine (unhide HH).mono ?_
    rintro e w1 ⟨rfl, rfl⟩
    go_wp2
    go_ret
    exact ⟨rfl, S, ⟨sb, bm, pv, unhide H⟩, Turn.refl _ _⟩
  · rw [if_neg h1]
    have hf : hasB D.secs.length i = true := decide_eq_true (by omega)
    rw [hf] at hhas
    obtain ⟨k, rfl⟩ : ∃ k : Nat, i = k := ⟨i.toNat, by omega⟩
    have hk : k < D.secs.length := by omega
    have HH := hide hhas
    by_cases h2 : l.length ≠ 32
    · rw [if_pos h2, if_pos (.inr (.inr (.inl h2)))]
      have h2' : ¬ (l.length : Int) = 32 := by omega
      have H := hide h
      clear h hhas h1 hf c4 h2
      go_enter Tryd.func8, Tryd.ntmps8
      go_wp2_with fail
      refine (unhide HH).mono ?_
      rintro e w1 ⟨rfl, rfl⟩
      go_wp2
      go_ret
      exact ⟨rfl, S, ⟨sb, bm, pv, unhide H⟩, Turn.refl _ _⟩
    · rw [if_neg h2]
      have h2' : l.length = 32 := Classical.byContradiction h2
      by_cases h3 : D.down = true
      · rw [if_pos h3, if_pos (.inr (.inr (.inr h3)))]
        rw [h3] at c4
        have H := hide h
        rw [h2']
        clear h hhas h1 hf h2 hb hlen
        go_enter Tryd.func8, Tryd.ntmps8
        go_wp2_with fail
        refine (unhide HH).mono ?_
        rintro e w1 ⟨rfl, rfl⟩
        go_wp2
        go_ret
        exact ⟨rfl, S, ⟨sb, bm, pv, unhide H⟩, Turn.refl _ _⟩
      · have h3' : D.down = false := by simpa using h3
        have hcond : ¬ ((k : Int) < 0 ∨ (D.secs.length : Int) ≤ (k : Int) ∨ l.length ≠ 32 ∨ D.down = true) := by
          rintro (h4 | h4 | h4 | h4)
          · omega
          · omega
          · exact h4 h2'
          · exact h3 h4
        rw [if_neg h3, if_neg hcond]
        rw [h3'] at c4
        have hr := remember_any k a cap l h hk hb h2' (hn (by intro e; rw [e] at h2'; cases h2'))
        have HR := hide hr
        obtain ⟨E, hE⟩ : ∃ E : Int, (if D.left = 0 then (9 : Int) else 0) = E := ⟨_, rfl⟩
        have hst : ∀ w1 pv' S', DevAt w1 p sb bm pv' S' (D.put k l) → Calls Tryd.prog 30 #[.pointer (some ⟨p, 0, none⟩)] w1 fun e w' => e = .returned (errV E) ∧ DevAt w' p sb bm pv' S' (D.put k l).step ∧ Turn S' S' w1 w' := by
          intro w1 pv' S' h'
          rw [← hE]; exact step_any h'
        have HST := hide hst
        clear hst
        rw [hE]
        clear hE
        rw [h2']
        clear h hhas h1 hf h2 h3 hr hb hlen hcond
        go_enter Tryd.func8, Tryd.ntmps8
        go_wp2_with fail
        refine (unhide HH).mono ?_
        rintro e w1 ⟨rfl, rfl⟩
        go_wp2_with fail
        refine (unhide HR).mono ?_
        rintro e w1 ⟨rfl, pv', S', h', ht⟩
        go_wp2_with fail
        refine (unhide HST w1 pv' S' h').mono ?_
        rintro e w2 ⟨rfl, h'', ht'⟩
        go_wp2
        go_ret
        exact ⟨rfl, S', ⟨sb, bm, pv', h''⟩, ht.trans ht'⟩

theorem take_drop_sec {s b : List Int} (hs : Sec s) (hb : Sec b) : b.take 32 ++ s.drop 32 = b := by
  rw [List.take_of_length_le (by rw [hb.1]; exact Nat.le_refl _), List.drop_eq_nil_of_le (by rw [hs.1]; exact Nat.le_refl _), List.append_nil]

theorem flush_go {sb bm : Nat} {pv : Value} (h : DevAt w p sb bm pv S D) (h1 : D.down = false) (h2 : ¬ D.left = 0) :
    Calls Tryd.prog 10 #[.pointer (some ⟨p, 0, none⟩)] w fun e w' => e = .returned .nilIface ∧ (∃ S', Dev w' p S' D.step.flush ∧ Turn S S' w w') := by
  have c4 := h.c4
  rw [h1] at c4
  have hst := step_any h
  rw [if_neg h2] at hst
  have HS := hide hst
  have hok := h.ok
  clear h hst
  go_enter Tryd.func10, Tryd.ntmps10
  go_wp2_with fail
  refine (unhide HS).mono ?_
  rintro e w1 ⟨rfl, h', ht⟩
  rw [errV_zero]
  clear HS c4
  have c2 := h'.c2
  have H := hide h'
  have HT := hide ht
  have hml := h'.ok.mem_len
  rcases h'.pv_cases with ⟨rfl, hm0⟩ | ⟨g, cap, rfl, hcap, hcm, hcell⟩
  · clear h' ht
    have hfl : D.step.flush = { D.step with mem := [] } := by unfold DS.flush; rw [hm0]; rfl
    go_wp2_with fail
    go_loop [21] (fun v => v = .int .i64 0) (fun _ => 0)
    case atStart => rfl
    case round =>
      subst hrel
      go_wp2_with fail
      refine (forget_any (unhide H)).mono ?_
      rintro e w2 ⟨rfl, h2', ht2⟩
      go_wp2
      go_ret
      exact ⟨rfl, S, ⟨sb, bm, _, by rw [hfl]; exact h2'⟩, (unhide HT).trans ht2⟩
  · clear h' ht hcell
    unfold maxLen at hcm
    go_wp2_with fail
    go_loopw [21] (fun v wr => ∃ k : Nat, k ≤ D.step.mem.length ∧ v = .int .i64 k ∧ DevAt wr p sb bm (.slice (some ⟨g, 0, none⟩) D.step.mem.length cap) S { D.step with secs := flushK D.step.secs D.step.mem k } ∧ Turn S S w wr) (fun v _ => D.step.mem.length - (intOf v).toNat)
    case atStart => exact ⟨0, Nat.zero_le _, rfl, unhide H, unhide HT⟩
    case round =>
      obtain ⟨k, hk, rfl, hd, htr⟩ := hrel
      by_cases hlt : k < D.step.mem.length
      · obtain ⟨ky, bd, hkb⟩ : ∃ ky bd, D.step.mem.getD k (0, []) = (ky, bd) := ⟨_, _, rfl⟩
        have hpc := hd.pend_cell k hlt
        have hpm : D.step.mem.getD k (0, []) ∈ D.step.mem := pair_mem hlt
        have hlk := lookup_at hd.ok.apart hlt
        have hset0 : flushK D.step.secs D.step.mem (k + 1) = (flushK D.step.secs D.step.mem k).set (D.step.mem.getD k (0, [])).1 (D.step.mem.getD k (0, [])).2 := rfl
        simp only [hkb] at hpc hpm hlk hset0
        have hq := hd.ok.mem _ hpm
        have hbr := bring_any ky 32 bd hd hq.1 (Nat.le_refl _) hlk
        have hset : flushK D.step.secs D.step.mem (k + 1) = (flushK D.step.secs D.step.mem k).set ky (bd.take 32 ++ ((flushK D.step.secs D.step.mem k).getD ky []).drop 32) := by
          rw [take_drop_sec (sec_getD hd.ok.sec hq.1) hq.2]; exact hset0
        have HB := hide hbr
        have HS := hide hset
        have HTR := hide htr
        clear hbr hset hset0 htr hd hpm hlk hq hkb H HT hok
        go_wp2_with fail
        refine (unhide HB).mono ?_
        rintro e w2 ⟨rfl, hd2, ht2⟩
        go_wp2
        go_roundw
        case rel => exact ⟨k + 1, by omega, by go_num, by rw [unhide HS]; exact hd2, (unhide HTR).trans ht2⟩
        case measure => simp [intOf]; omega
      · obtain rfl : k = D.step.mem.length := by omega
        clear H HT hok
        go_wp2_with fail
        refine (forget_any hd).mono ?_
        rintro e w2 ⟨rfl, h2', ht2⟩
        go_wp2
        go_ret
        exact ⟨rfl, S, ⟨sb, bm, _, h2'⟩, htr.trans ht2⟩

theorem flush_any (h : Dev w p S D) :
    Calls Tryd.prog 10 #[.pointer (some ⟨p, 0, none⟩)] w fun e w' => e = .returned (errV D.flushE) ∧ (∃ S', Dev w' p S' D.doFlush ∧ Turn S S' w w') := by
  obtain ⟨sb, bm, pv, h⟩ := h
  unfold DS.flushE DS.doFlush
  by_cases h1 : D.down = true
  · rw [if_pos h1, if_pos h1]
    have c4 := h.c4
    rw [h1] at c4
    have H := hide h
    clear h
    go_enter Tryd.func10, Tryd.ntmps10
    go_wp2
    go_ret
    exact ⟨rfl, S, ⟨sb, bm, pv, unhide H⟩, Turn.refl _ _⟩
  · rw [if_neg h1, if_neg h1]
    have h1' : D.down = false := by simpa using h1
    by_cases h2 : D.left = 0
    · rw [if_pos h2, if_pos h2]
      have c4 := h.c4
      rw [h1'] at c4
      have hst := step_any h
      rw [if_pos h2] at hst
      have he : D.step = { D with down := true } := by unfold DS.step; rw [if_pos h2]
      rw [he] at hst
      have HS := hide hst
      clear h hst he h1 h2
      go_enter Tryd.func10, Tryd.ntmps10
      go_wp2_with fail
      refine (unhide HS).mono ?_
      rintro e w1 ⟨rfl, h', ht⟩
      rw [errV_pos 9 (by decide)]
      go_wp2
      go_ret
      exact ⟨rfl, S, ⟨sb, bm, pv, h'⟩, ht⟩
    · rw [if_neg h2, if_neg h2]
      exact flush_go h h1' h2
end
end Go.Proofs.YtnpdejlbknjhnaaDoor
