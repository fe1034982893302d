/-
  Contracts of the reference's device: Write of what is there. (Part of the proof of DevicePlays.)
-/
import Derived.Test.YtnpdejlbknjhnaaDoorRefC
import Derived.Deep.RegionWith
namespace Go.Proofs.YtnpdejlbknjhnaaDoor
open Go.RowKit
set_option linter.unusedVariables false

section
variable {w : World} {p : Nat} {S : Nat → Prop} {D : DS}

theorem keys_same {m : List (Nat × List Int)} {i : Nat} (l : List Int) (hi : i ∈ m.map (·.1)) (k : Nat) : ((memPut m i l).getD k (0, [])).1 = (m.getD k (0, [])).1 := by
  have h : (memPut m i l).map (·.1) = m.map (·.1) := by rw [keys_put, if_pos hi]
  have h2 : ((memPut m i l).map (·.1))[k]? = (m.map (·.1))[k]? := by rw [h]
  rw [List.getElem?_map, List.getElem?_map] at h2
  simp only [List.getD]
  cases e1 : (memPut m i l)[k]? with
  | none => cases e2 : m[k]? with
    | none => rfl
    | some _ => rw [e1, e2] at h2; simp at h2
  | some x => cases e2 : m[k]? with
    | none => rw [e1, e2] at h2; simp at h2
    | some y => rw [e1, e2] at h2; simpa using h2
theorem length_put_old {m : List (Nat × List Int)} {i : Nat} (l : List Int) (hi : i ∈ m.map (·.1)) : (memPut m i l).length = m.length := by
  have h : (memPut m i l).map (·.1) = m.map (·.1) := by rw [keys_put, if_pos hi]
  rw [← length_keys, h, length_keys]

set_option maxHeartbeats 2000000 in
theorem rwrite_old {sv lv : Value} {left : Int} (i : Nat) (a : Option Addr) (cap : Nat) (l : List Int) (h : RefAt w p sv lv left S D) (hi : i < D.secs.length) (hd : D.down = false) (hb : Bs w a cap l) (hl : l.length = 32) (q : Nat) (hq : q < D.mem.length) (hqi : (D.mem.getD q (0, [])).1 = i) :
    Calls Tryd.prog 9 #[.pointer (some ⟨p, 0, none⟩), .int .i64 i, .slice a 32 cap] w fun e w' => e = .returned (.int .i64 (if D.left = 0 then 9 else 0)) ∧ (∃ S', Ref w' p S' (D.put i l).step ∧ Turn S S' w w') := by
  have hsl : Sec l := ⟨hl, hb.1⟩
  have c0 := h.c0
  have c1 := h.c1
  have c3 := h.c3
  rw [hd] at c3
  have hlen := h.ok.len
  have hml := h.ok.mem_len
  have him : i ∈ D.mem.map (·.1) := by rw [← hqi]; exact key_mem hq
  obtain ⟨gs, scap, rfl, hs1, hs2, _, _⟩ := h.sv_form (by omega)
  unfold maxLen at hs2
  obtain ⟨gl, lc, rfl, hl1, hl2, hglS, hl4⟩ : ∃ gl lc, lv = .slice (some ⟨gl, 0, none⟩) D.mem.length lc ∧ D.mem.length ≤ lc ∧ lc ≤ maxLen ∧ S gl ∧ ∀ i, i < D.mem.length → w.cell? ⟨gl, i * 2, none⟩ = some (.int .i64 ((D.mem.getD i (0, [])).1 : Int)) ∧ ∃ v, w.cell? ⟨gl, i * 2 + 1, none⟩ = some v ∧ SecV w S v (D.mem.getD i (0, [])).2 := by
    rcases h.lv_form with ⟨_, e⟩ | r
    · rw [e] at hq; simp at hq
    · exact r
  unfold maxLen at hl2
  have e1 : ¬ (i : Int) < 0 := by omega
  have e2 : ¬ (D.secs.length : Int) ≤ (i : Int) := by omega
  have hlp := h.lt p h.inp
  have hlg := h.lt gl hglS
  have hkey : ∀ g c w1, Own w1 w.heap.size g c l → Below w.heap.size w w1 → RefAt (w1.setCell ⟨gl, q * 2 + 1, none⟩ (.slice (some ⟨g, 0, none⟩) 32 c)) p (.slice (some ⟨gs, 0, none⟩) D.secs.length scap) (.slice (some ⟨gl, 0, none⟩) D.mem.length lc) left (fun k => S k ∨ k = g) (D.put i l) ∧ Turn S (fun k => S k ∨ k = g) w (w1.setCell ⟨gl, q * 2 + 1, none⟩ (.slice (some ⟨g, 0, none⟩) 32 c)) := by
    intro g c w1 ho hbel
    have hgw : w.heap.size ≤ g := ho.base
    have hgl : g < w1.heap.size := (ho.lt g rfl).2
    have h1 : RefAt w1 p _ _ left S D := h.same hbel.size (fun k hk => hbel.block k (h.lt k hk))
    have h2 := h1.wide (S' := fun k => S k ∨ k = g) (fun k hk => .inl hk) (fun k hk => by
      rcases hk with hk | hk
      · exact h1.lt k hk
      · omega)
    have h3 := h2.setLine q hq (secV_own ho hsl (.inr rfl)) hsl
    rw [hqi] at h3
    exact ⟨h3.1, (Turn.grow hbel hgw).trans h3.2⟩
  have hcp := copied_any a cap l w.drew hb (by intro e; rw [e] at hl; cases hl)
  rw [hl] at hcp
  have hfz : w.frozen? ⟨gl, q * 2 + 1, none⟩ = false := by
    obtain ⟨cs, q5, _⟩ := h.lin
    obtain ⟨cur, q6⟩ := ownsRow_block q5 (g := gl) rfl
    exact frozen_of_row _ _ _ _ _ q6
  obtain ⟨_, vq, hvq, _⟩ := hl4 q hq
  have hkeyo : ∀ k, k < D.mem.length → k ≠ q → (D.mem.getD k (0, [])).1 ≠ i := fun k hk hne e => hne (key_inj h.ok.apart hk hq (by rw [e, hqi]))
  obtain ⟨E, hE⟩ : ∃ E : Int, (if D.left = 0 then (9 : Int) else 0) = E := ⟨_, rfl⟩
  have hst : ∀ w1 S1 left1, RefAt w1 p (.slice (some ⟨gs, 0, none⟩) D.secs.length scap) (.slice (some ⟨gl, 0, none⟩) D.mem.length lc) left1 S1 (D.put i l) → Calls Tryd.prog 32 #[.pointer (some ⟨p, 0, none⟩)] w1 fun e w' => e = .returned (.bool (decide (D.left ≠ 0))) ∧ (∃ left', RefAt w' p (.slice (some ⟨gs, 0, none⟩) D.secs.length scap) (.slice (some ⟨gl, 0, none⟩) D.mem.length lc) left' S1 (D.put i l).step) ∧ Turn S1 S1 w1 w' :=
    fun w1 S1 left1 h1 => rstep_any h1 hd
  have HST := hide hst
  have HKEY := hide hkey
  have HCP := hide hcp
  have HL4 := hide hl4
  have HKO := hide hkeyo
  have HIM := hide him
  have HE := hide hE
  rw [hE]
  clear h hst hkey hcp hl4 hkeyo him hE
  go_enter Tryd.func9, Tryd.ntmps9
  go_wp2_with fail
  go_loopw [7, 8] (fun f jv wr => ∃ k : Nat, k ≤ D.mem.length ∧ jv = .int .i64 k ∧ ((k ≤ q ∧ f = .bool false ∧ wr = w) ∨ (q < k ∧ f = .bool true ∧ ∃ S', RefAt wr p (.slice (some ⟨gs, 0, none⟩) D.secs.length scap) (.slice (some ⟨gl, 0, none⟩) D.mem.length lc) left S' (D.put i l) ∧ Turn S S' w wr))) (fun _ jv _ => D.mem.length - (intOf jv).toNat)
  case atStart => exact ⟨0, by omega, rfl, .inl ⟨by omega, rfl, rfl⟩⟩
  case round =>
    obtain ⟨k, hk, rfl, hor⟩ := hrel
    have f0 : (0 : Int) ≤ (k : Int) := by omega
    rcases hor with ⟨hkq, rfl, rfl⟩ | ⟨hkq, rfl, S1, hr1, ht1⟩
    · have hlt : k < D.mem.length := by omega
      have f1 : (k : Int) < (D.mem.length : Int) := by omega
      obtain ⟨q0, vb, q1, _⟩ := (unhide HL4) k hlt
      by_cases e : k = q
      · subst e
        rw [hqi] at q0
        have HQI := hide hqi
        clear hqi
        go_wp2_with fail
        go_region_with (go_at_call 31; refine (unhide HCP).mono ?_; rintro e w1 ⟨g, c, rfl, hown, hbel⟩; have r1 : w1.cell? ⟨p, 1, none⟩ = some (.slice (some ⟨gl, 0, none⟩) D.mem.length lc) := (hbel.cell (p := ⟨p, 1, none⟩) hlp).trans c1; have r2 : w1.cell? ⟨gl, k * 2 + 1, none⟩ = some vq := (hbel.cell (p := ⟨gl, k * 2 + 1, none⟩) hlg).trans hvq; have r3 : w1.frozen? ⟨gl, k * 2 + 1, none⟩ = false := (hbel.frozen (p := ⟨gl, k * 2 + 1, none⟩) hlg).trans hfz)
        all_goals
          go_wp2
          go_roundw
          case rel => exact ⟨k + 1, by omega, by go_num, .inr ⟨by omega, rfl, _, (unhide HKEY g c w1 hown (below_of_drew hbel)).1, (unhide HKEY g c w1 hown (below_of_drew hbel)).2⟩⟩
          case measure => simp [intOf]; omega
      · have hne := (unhide HKO) k hlt e
        obtain ⟨ky, bd, hkb⟩ : ∃ ky bd, D.mem.getD k (0, []) = (ky, bd) := ⟨_, _, rfl⟩
        simp only [hkb] at q0 hne
        have hne' : ¬ (ky : Int) = (i : Int) := by omega
        clear hkb hne
        go_wp2
        go_roundw
        case rel => exact ⟨k + 1, by omega, by go_num, .inl ⟨by omega, by simp⟩⟩
        case measure => simp [intOf]; omega
    · have d1 := hr1.c1
      by_cases hlt : k < D.mem.length
      · have f1 : (k : Int) < (D.mem.length : Int) := by omega
        have hne := (unhide HKO) k hlt (by omega)
        have hlp2 : (D.put i l).mem.length = D.mem.length := length_put_old l (unhide HIM)
        obtain ⟨q0, _⟩ : wr.cell? ⟨gl, k * 2, none⟩ = some (.int .i64 (((D.put i l).mem.getD k (0, [])).1 : Int)) ∧ True := by
          rcases hr1.lv_form with ⟨e, _⟩ | ⟨g', c', e, _, _, _, hh⟩
          · cases e
          · simp only [Value.slice.injEq, Option.some.injEq, Addr.mk.injEq, and_true] at e
            rw [e.1]; exact ⟨(hh k (by omega)).1, trivial⟩
        rw [show ((D.put i l).mem.getD k (0, [])).1 = (D.mem.getD k (0, [])).1 from keys_same l (unhide HIM) k] at q0
        obtain ⟨ky, bd, hkb⟩ : ∃ ky bd, D.mem.getD k (0, []) = (ky, bd) := ⟨_, _, rfl⟩
        simp only [hkb] at q0 hne
        have hne' : ¬ (ky : Int) = (i : Int) := by omega
        have HR1 := hide hr1
        have HT1 := hide ht1
        clear hkb hne hlp2 hr1 ht1
        go_wp2
        go_roundw
        case rel => exact ⟨k + 1, by omega, by go_num, .inr ⟨by omega, by simp, S1, unhide HR1, unhide HT1⟩⟩
        case measure => simp [intOf]; omega
      · obtain rfl : k = D.mem.length := by omega
        have HS1 := hide ((unhide HST) wr S1 left hr1)
        have HT1 := hide ht1
        clear hr1 ht1
        go_wp2_with fail
        refine (unhide HS1).mono ?_
        rintro e w2 ⟨rfl, ⟨left2, h2⟩, ht2⟩
        by_cases h0 : D.left = 0
        · rw [decide_eq_false (fun h => h h0)]
          have hE9 : E = 9 := by rw [← unhide HE, if_pos h0]
          have HE9 := hide hE9
          clear hE9 h0
          go_wp2
          go_ret
          exact ⟨by rw [unhide HE9]; rfl, S1, ⟨_, _, _, h2⟩, (unhide HT1).trans ht2⟩
        · rw [decide_eq_true h0]
          have hE9 : E = 0 := by rw [← unhide HE, if_neg h0]
          have HE9 := hide hE9
          clear hE9 h0
          go_wp2
          go_ret
          exact ⟨by rw [unhide HE9]; rfl, S1, ⟨_, _, _, h2⟩, (unhide HT1).trans ht2⟩
end
end Go.Proofs.YtnpdejlbknjhnaaDoor
