/-
  Parts of the proofs, joined by program.
-/
import Derived.Test.YtifmemombecoaaaGreatDoorJChp
import Derived.Test.YtifmemombecoaaaGreatDoorJExf
namespace Go.Proofs.YtifmemombecoaaaGreatDoor
open Go.RowKit
set_option linter.unusedVariables false
def alE (L : List Int) (n t : Int) : Int := if n < 1 \/ 1000 < n \/ t < 0 \/ 15 < t then 1 else if lowH L = 40 then 4 else fitE ((L.length : Int) - 288) (takeL L) n
def alH (L : List Int) (n t : Int) : Int := if alE L n t = 0 then (lowH L : Int) + 1 else 0
def alB (L : List Int) (n t : Int) : List Int := if alE L n t = 0 then alL L ((lowH L : Int) + 1) (288 + fitAt ((L.length : Int) - 288) (takeL L) n).toNat n.toNat t else L
theorem take_chk {L : List Int} (hf : Fine L) : chk ((L.length : Int) - 288) (takeL L) = 0 := by
 have := hf.len
 exact chk_zero.2 ⟨by omega, by omega, Nat.le_trans (takeL_len L) (by decide), take_good hf⟩
theorem take_srt {L : List Int} (hf : Fine L) : Srt (takeL L) (srtL (takeL L)) := (take_good hf).srtL
theorem fitE_fine {L : List Int} (hf : Fine L) {n : Int} (h1 : 1 <= n) (h2 : n <= 6400) : fitE ((L.length : Int) - 288) (takeL L) n = if (fitB n (freeOf ((L.length : Int) - 288) (srtL (takeL L)))).2 = 0 then 4 else 0 := by
 unfold fitE freeL
 rw [if_neg (fun h => h (take_chk hf)), if_neg (by omega), if_pos (take_chk hf)]
theorem fitAt_fine {L : List Int} (hf : Fine L) {n : Int} (h1 : 1 <= n) (h2 : n <= 6400) (h0 : fitE ((L.length : Int) - 288) (takeL L) n = 0) : fitAt ((L.length : Int) - 288) (takeL L) n = (fitB n (freeOf ((L.length : Int) - 288) (srtL (takeL L)))).1 := by
 unfold fitAt
 rw [if_pos h0]
 unfold freeL
 rw [if_pos (take_chk hf)]
structure AlOk (L : List Int) (n t : Int) (x N : Nat) : Prop where
 eqn : n = N
 n1 : 1 <= N
 n2 : N <= 1000
 t1 : 0 <= t
 t2 : t <= 15
 low : lowH L < 40
 free : tagAt L ((lowH L : Int) + 1) = 0
 fit : fitE ((L.length : Int) - 288) (takeL L) n = 0
 eqx : 288 + fitAt ((L.length : Int) - 288) (takeL L) n = x
 x1 : 288 <= x
 x2 : x + N <= L.length
 no : ∀ k, 1 <= k -> k <= 40 -> tagAt L k ≠ 0 -> (entOf L k).2.1 + (entOf L k).2.2.1 <= x \/ (x : Int) + N <= (entOf L k).2.1
theorem al_ok {L : List Int} (hf : Fine L) {n t : Int} (h0 : alE L n t = 0) : ∃ x N, AlOk L n t x N := by
 unfold alE at h0
 by_cases h1 : n < 1 \/ 1000 < n \/ t < 0 \/ 15 < t
 ·rw [if_pos h1] at h0; exact absurd h0 (by decide)
 ·rw [if_neg h1] at h0
  by_cases h2 : lowH L = 40
  ·rw [if_pos h2] at h0; exact absurd h0 (by decide)
  ·rw [if_neg h2] at h0
   have h3 := lowH_le L
   obtain ⟨N, rfl⟩ := Int.eq_ofNat_of_zero_le (show 0 <= n by omega)
   have hfit : (fitB (N : Int) (freeOf ((L.length : Int) - 288) (srtL (takeL L)))).2 ≠ 0 := fun hz => by
    rw [fitE_fine hf (by omega) (by omega), if_pos hz] at h0
    exact absurd h0 (by decide)
   obtain ⟨x, hx, hx1, hx2, hno⟩ := alloc_fit hf (take_srt hf) (n := N) (by omega) hfit
   exact ⟨x, N, rfl, by omega, by omega, by omega, by omega, by omega, of_decide_eq_true ((lowH_first L).2.2 (by omega)), h0, by rw [fitAt_fine hf (by omega) (by omega) h0, hx], hx1, hx2, hno⟩
section
variable {L : List Int} {n t : Int} {x N : Nat}
theorem AlOk.img (h : AlOk L n t x N) (h0 : alE L n t = 0) : alB L n t = alL L ((lowH L : Int) + 1) x N t /\ alH L n t = (lowH L : Int) + 1 := by
 unfold alB alH
 rw [if_pos h0, if_pos h0, h.eqx, h.eqn, Int.toNat_natCast, Int.toNat_natCast]
 exact ⟨rfl, rfl⟩
theorem AlOk.put (h : AlOk L n t x N) (hf : Fine L) : putE L ((lowH L : Int) + 1, (x : Int), (N : Int), t) = 0 := by
 have h1 := h.low
 have h2 := h.n1
 have h3 := h.n2
 have h4 := h.t1
 have h5 := h.t2
 have h6 := h.x1
 have h7 := h.x2
 exact putE_zero.2 ⟨hf.len0, hndB_iff.2 ⟨by show 1 <= (lowH L : Int) + 1; omega, by show (lowH L : Int) + 1 <= 40; omega⟩, h4, h5, by show 1 <= (N : Int); omega, by show (N : Int) <= 1000; omega, by show 288 <= (x : Int); omega, by show (x : Int) + N <= _; omega⟩
theorem AlOk.keep (h : AlOk L n t x N) (hf : Fine L) (h0 : alE L n t = 0) : Fine (alB L n t) /\ (alB L n t).length = L.length /\ objOf (alB L n t) ((lowH L : Int) + 1) = (t, zerosB N) /\ entOf (alB L n t) ((lowH L : Int) + 1) = ((lowH L : Int) + 1, (x : Int), (N : Int), t) /\ tagAt (alB L n t) ((lowH L : Int) + 1) ≠ 0 /\
  (∀ k, 1 <= k -> k <= 40 -> k ≠ (lowH L : Int) + 1 -> objOf (alB L n t) k = objOf L k /\ tagAt (alB L n t) k = tagAt L k /\ entOf (alB L n t) k = entOf L k) := by
 rw [(h.img h0).1]
 exact alloc_keep hf (by omega) (by have := h.low; omega) h.free h.n1 h.n2 h.x1 h.x2 h.t1 h.t2 h.no
theorem AlOk.lay (h : AlOk L n t x N) (hf : Fine L) (h0 : alE L n t = 0) : splice (putL L ((lowH L : Int) + 1, (x : Int), (N : Int), t)) x (zerosB N) = alB L n t := by
 rw [(h.img h0).1]
 exact (put_lay (h.put hf) h.x1 (by rw [length_zerosB]; exact h.x2)).2
end
theorem alB_byt {L : List Int} (hb : Byt L) (n t : Int) : Byt (alB L n t) := by
 unfold alB
 split
 ·unfold alL putL
  split
  ·exact byt_splice (byt_splice hb (byt_zerosB _)) (byt_rowE _)
  ·exact fun z hz => (by cases hz)
 ·exact hb
theorem alB_fine {L : List Int} (hf : Fine L) (n t : Int) : Fine (alB L n t) := by
 by_cases h0 : alE L n t = 0
 ·obtain ⟨x, N, h⟩ := al_ok hf h0
  exact (h.keep hf h0).1
 ·unfold alB
  rw [if_neg h0]
  exact hf
theorem ents_in {L : List Int} (hf : Fine L) : ∀ e ∈ entsK L 40, 0 <= e.2.1 /\ e.2.1 <= 65535 /\ 0 <= e.2.2.1 /\ e.2.2.1 <= 65535 := fun e he => by
 obtain ⟨j, h1, h2, rfl⟩ := mem_entsP.1 he
 have := hf.ent (h := (j : Int) + 1) (by omega) (by omega) h2
 have := hf.len
 omega
def pcE (L : List Int) (h x n : Int) : Int := if chkE L h ≠ 0 then chkE L h else if x < 0 \/ n < 0 \/ (entOf L h).2.2.1 < x + n then 3 else 0
theorem pcE_zero {L : List Int} {h x n : Int} : pcE L h x n = 0 ↔ chkE L h = 0 /\ 0 <= x /\ 0 <= n /\ x + n <= (entOf L h).2.2.1 := by
 unfold pcE
 by_cases h0 : chkE L h = 0
 ·rw [if_neg (fun h => h h0)]
  by_cases h1 : x < 0 \/ n < 0 \/ (entOf L h).2.2.1 < x + n
  ·rw [if_pos h1]
   exact ⟨fun h => absurd h (by decide), fun h => by omega⟩
  ·rw [if_neg h1]
   exact ⟨fun _ => ⟨h0, by omega⟩, fun _ => rfl⟩
 ·rw [if_pos h0]
  exact ⟨fun h => absurd h h0, fun h => absurd h.1 h0⟩
def rdL (L : List Int) (h x n : Int) : List Int := if pcE L h x n = 0 then (L.drop ((entOf L h).2.1.toNat + x.toNat)).take n.toNat else []
theorem rdL_byt {L : List Int} (hb : Byt L) (h x n : Int) : Byt (rdL L h x n) := by
 unfold rdL
 by_cases h0 : pcE L h x n = 0
 ·rw [if_pos h0]; exact hb.sub _ _
 ·rw [if_neg h0]; exact fun z hz => absurd hz List.not_mem_nil
def wrB (L : List Int) (h x : Int) (l : List Int) : List Int := if pcE L h x l.length = 0 then splice L ((entOf L h).2.1.toNat + x.toNat) l else L
end Go.Proofs.YtifmemombecoaaaGreatDoor
