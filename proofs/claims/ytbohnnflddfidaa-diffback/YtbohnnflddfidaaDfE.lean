/-
  The contract of diff.Apply. (Part of the proofs over package diff.)
-/
import Derived.Test.YtbohnnflddfidaaDfD
namespace Go.Proofs.Ytbohnnflddfidaa
open Go.RowKit
set_option linter.unusedVariables false

def apF (L : List Int) (l : List (Int × List Int × List Int)) : Int := if 200 < l.length then 4 else apE L l
def apR (L : List Int) (l : List (Int × List Int × List Int)) : List Int := if apF L l = 0 then apL L l else []
theorem byt_stepL {L : List Int} {c : (Int × List Int × List Int)} (h : Byt L) (hc : Byt c.2.2) : Byt (stepL L c) := byt_splice h hc
theorem byt_apLK {L : List Int} {l : List (Int × List Int × List Int)} (h : Byt L) (hl : ∀ i, i < l.length → Byt (l.getD i (0, [], [])).2.2) : ∀ {k : Nat}, k ≤ l.length → Byt (apLK L l k)
  | 0, _ => h
  | k + 1, hk => by
    rw [apLK_step (by omega)]
    exact byt_stepL (byt_apLK h hl (by omega)) (hl k (by omega))
set_option maxRecDepth 100000 in
set_option maxHeartbeats 1000000 in
theorem apply_few (a al : Option Addr) (cap cl : Nat) (L : List Int) (l : List (Int × List Int × List Int)) (w : World) (hb : Bs w a cap L) (hl : Chs w al cl l) (h200 : l.length ≤ 200) :
    Calls Try.prog 7 #[.slice a L.length cap, .slice al l.length cl] w (Ends w (apR L l) (errV (apE L l))) := by
  have hF : apF L l = apE L l := by unfold apF; rw [if_neg (by omega)]
  have hR0 : apE L l = 0 → apR L l = apLK L l l.length := fun h => by unfold apR apLK; rw [hF, if_pos h, List.take_length]
  have hR1 : apE L l ≠ 0 → apR L l = [] := fun h => by unfold apR; rw [hF, if_neg h]
  have hE : apE L l = apEK L l l.length := by unfold apEK; rw [List.take_length]
  have hLn := hb.2.2.1
  have HBY := hide (fun (k : Nat) (hk : k ≤ l.length) => byt_apLK (l := l) hb.1 (fun i hi => by obtain ⟨_, _, _, _, _, _, _, _, _, _, _, h⟩ := hl.at hi; exact h.1) hk)
  have HC := hide (bclone_any a cap L w hb)
  have HL := hide hl
  have HR0 := hide hR0
  have HR1 := hide hR1
  have HE := hide hE
  have HST := hide (fun (k : Nat) (hk : k < l.length) (h0 : apEK L l k = 0) => apEK_step hk h0)
  have HSL := hide (fun (k : Nat) (hk : k < l.length) => apLK_step (L := L) hk)
  have HLT := hide (fun (k : Nat) (h : apEK L l k ≠ 0) => apEK_late h)
  have HLEN := hide (fun (k : Nat) (hk : k ≤ l.length) (h : apEK L l k = 0) => apLK_len hk h)
  have hz0 : apEK L l 0 = 0 := rfl
  have hz1 : apLK L l 0 = L := rfl
  clear hb hl hR0 hR1 hE hF
  generalize apE L l = AE at *
  generalize apR L l = AR at *
  generalize apEK L l = EK at *
  generalize apLK L l = LK at *
  generalize hn : L.length = n at *
  generalize hm : l.length = m at *
  have HM := hide hm
  clear hn hm
  go_enter Try.func7, Try.ntmps7
  go_wp2_with fail
  refine (unhide HC).mono ?_
  rintro e w1 ⟨a1, c1, rfl, hown, hb1⟩
  rw [← hz1] at hown
  have HO1 := hide hown
  have HB1 := hide hb1
  clear hown hb1 HC
  go_wp2_with fail
  go_loopw [18] (fun kv wr => ∃ k : Nat, k ≤ m ∧ kv = .int .i64 k ∧ EK k = 0 ∧ OwnV wr w.heap.size (.slice a1 n c1) (LK k) ∧ Below w.heap.size w wr) (fun kv _ => m - (intOf kv).toNat)
  case atStart => exact ⟨0, Nat.zero_le _, rfl, hz0, unhide HO1, unhide HB1⟩
  case round =>
    obtain ⟨k, hk, rfl, hk0, hown, hbel⟩ := hrel
    by_cases hlt : k < m
    · have hlen := unhide HLEN k (by omega) hk0
      obtain ⟨b, off, s1, d1, s2, d2, rfl, q0, q1, q2, h1, h2⟩ := ((unhide HL).below hbel).at (show k < l.length by rw [unhide HM]; exact hlt)
      have hst := unhide HST k hlt hk0
      have hsl := unhide HSL k hlt
      generalize l.getD k (0, [], []) = c at *
      obtain ⟨x, O, N⟩ := c
      dsimp only at q0 q1 q2 h1 h2
      have hbA : Below wr.heap.size wr (wr.alloc (.cells #[.int .i64 x, .slice s1 O.length d1, .slice s2 N.length d2] 29)) := (Below.refl _ wr).alloc (Nat.le_refl _) _
      have hch := change_any a1 s1 s2 c1 d1 d2 (LK k) O N x w.heap.size _ (by rw [hlen]; exact hown.below hbA) (unhide HBY k (by omega)) (by omega) (h1.below hbA) (h2.below hbA) (Nat.le_trans hbel.size hbA.size)
      rw [hlen, ← hst, ← hsl] at hch
      unfold chV at hch
      have HCH := hide hch
      have HBT := hide (hbel.trans (hbA.mono hbel.size))
      have hOl := h1.2.2.1
      have hNl := h2.2.2.1
      have HLK := hide (unhide HLT (k + 1))
      generalize O.length = o at *
      generalize N.length = nn at *
      clear hch hst hsl h1 h2 hbA hown hbel hlen
      go_wp2_with fail
      refine (unhide HCH).mono ?_
      rintro e w2 ⟨rfl, hok, hb2⟩
      by_cases hz : EK (k + 1) = 0
      · rw [hz, errV_zero]
        have HO2 := hide (hok hz)
        have HB2 := hide ((unhide HBT).trans hb2)
        clear hok hb2 HBT HCH
        go_wp2
        go_roundw
        case rel => exact ⟨k + 1, by omega, by go_num, hz, unhide HO2, unhide HB2⟩
        case measure => simp [intOf]; omega
      · rw [errV_pos _ hz]
        have HB2 := hide ((unhide HBT).trans hb2)
        clear hok hb2 HBT HCH
        go_wp2
        go_ret2
        have he := unhide HLK hz
        rw [unhide HR1 (by rw [he]; exact hz), he, errV_pos _ hz]
        exact ⟨none, 0, rfl, bs_nil _, unhide HB2⟩
    · obtain rfl : k = m := by omega
      have HO := hide hown
      have HB := hide hbel
      clear hown hbel
      go_wp2
      go_ret2
      have he : AE = 0 := (unhide HE).trans hk0
      have hlen := unhide HLEN k (Nat.le_refl _) hk0
      rw [unhide HR0 he, he, errV_zero]
      have hO := unhide HO
      rw [← hlen] at hO
      obtain ⟨a', c', e', hbs⟩ := hO.bs (unhide HBY k (Nat.le_refl _)) (by rw [hlen]; omega)
      simp only [Value.slice.injEq, true_and] at e'
      refine ⟨a1, c1, by rw [hlen]; rfl, ?_, unhide HB⟩
      rw [e'.1, e'.2]
      exact hbs
theorem apply_full (a al : Option Addr) (cap n cl k : Nat) (w : World) (hk : k ≤ 8796093021952) (h200 : 200 < k) :
    Calls Try.prog 7 #[.slice a n cap, .slice al k cl] w fun e w' => e = .returned (.tuple #[.slice none 0 0, errV 4]) ∧ w = w' := by
  go_enter Try.func7, Try.ntmps7
  go_wp2
  go_ret2
  exact ⟨rfl, rfl⟩
/-- What Apply makes of any bytes by any changes. -/
theorem apply_any (a al : Option Addr) (cap cl : Nat) (L : List Int) (l : List (Int × List Int × List Int)) (w : World) (hb : Bs w a cap L) (hl : Chs w al cl l) :
    Calls Try.prog 7 #[.slice a L.length cap, .slice al l.length cl] w (Ends w (apR L l) (errV (apF L l))) := by
  by_cases h : 200 < l.length
  · have hF : apF L l = 4 := by unfold apF; rw [if_pos h]
    have hR : apR L l = [] := by unfold apR; rw [hF]; rfl
    rw [hF, hR]
    exact (apply_full a al cap L.length cl l.length w hl.len.1 h).mono fun e w' ⟨h1, h2⟩ => ends_nil h1 h2
  · have hF : apF L l = apE L l := by unfold apF; rw [if_neg h]
    rw [hF]
    exact apply_few a al cap cl L l w hb hl (by omega)
end Go.Proofs.Ytbohnnflddfidaa
