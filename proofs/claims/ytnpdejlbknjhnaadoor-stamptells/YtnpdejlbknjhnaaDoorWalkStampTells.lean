/-
  The walk of the law StampTells. (Part of the proof of StampTells.)
-/
import Derived.Test.YtnpdejlbknjhnaaDoorRefStamp
import Derived.Test.YtnpdejlbknjhnaaDoorStampStr
import Derived.Test.YtnpdejlbknjhnaaDoorErrSame
import Derived.Maps.AppendAt
namespace Go.Proofs.YtnpdejlbknjhnaaDoor
open Go.RowKit
set_option linter.unusedVariables false

/-- A value that owns a row of bytes (or is nil, of none). -/
def OwnV (w : World) (B : Nat) (v : Value) (L : List Int) : Prop := w.ownsRow B 5 1 v L.length (L.map (Value.int .u8))
theorem OwnV.nil (w : World) (B : Nat) : OwnV w B (.slice none 0 0) [] := ⟨by simp, .inl ⟨rfl, rfl⟩⟩
theorem OwnV.block {w : World} {B : Nat} {v : Value} {L : List Int} (h : OwnV w B v L) : ∀ k, v.ownBlock = some k → B ≤ k := by
  intro k hk
  rcases h.2 with ⟨rfl, _⟩ | ⟨g, cap, cur, rfl, hB, _⟩
  · cases hk
  · simp [Value.ownBlock] at hk
    omega
theorem OwnV.bs {w : World} {B : Nat} {v : Value} {L : List Int} (h : OwnV w B v L) (hb : Byt L) (hl : L.length ≤ 140737488351232) : ∃ a c, v = .slice a L.length c ∧ Bs w a c L := by
  rcases h.2 with ⟨rfl, h0⟩ | ⟨g, cap, cur, rfl, hB, hc, h3, h4, h5, h6⟩
  · have : L = [] := List.eq_nil_of_length_eq_zero h0
    subst this
    exact ⟨none, 0, rfl, bs_nil _⟩
  · refine ⟨some ⟨g, 0, none⟩, cap, rfl, hb, h3, hl, fun e => (by cases e), fun _ => ⟨g, 0, rfl, fun i hi => ?_⟩⟩
    rw [cell_of_row _ _ _ _ _ _ hc]
    have e : (cur.toList.take (L.length * 1))[i]? = some (.int .u8 (L.getD i 0)) := by
      rw [h6]
      simp [List.getD, hi]
    rw [List.getElem?_take, if_pos (by omega)] at e
    simpa using e
theorem news_bs {w : World} {ad : Addr} {c : Nat} {l : List Int} (hb : Bs w (some ad) c l) : ∀ j u, (l.map (Value.int .u8))[j]? = some u → w.cell? (ad.add j) = some u := by
  intro j u hj
  have hjl : j < l.length := by
    rcases Nat.lt_or_ge j l.length with h1 | h1
    · exact h1
    · rw [List.getElem?_eq_none (by simpa using h1)] at hj; cases hj
  obtain ⟨b, off, e, hc⟩ := hb.2.2.2.2 (by intro e; rw [e] at hjl; simp at hjl)
  obtain rfl := Option.some.inj e
  have h2 := hc j hjl
  simp [hjl] at hj
  subst hj
  rw [addr_add]
  simpa [List.getD, hjl] using h2
theorem OwnV.below {w w' : World} {B : Nat} {v : Value} {L : List Int} (h : OwnV w B v L) (hb : Below w.heap.size w w') : OwnV w' B v L := by
  refine ⟨h.1, ?_⟩
  rcases h.2 with h0 | ⟨g, cap, cur, rfl, hB, hc, h3⟩
  · exact .inl h0
  · exact .inr ⟨g, cap, cur, rfl, hB, (hb.block g (Array.getElem?_eq_some_iff.1 hc).1).trans hc, h3⟩

/-- 'b[i:]', of bytes that lie somewhere. -/
theorem slice_lo' {P : Program} {t : TypeId} (hu : P.underlying t = some (.slice 5)) (hsz : (P.info? 5).map (·.size) = some 1) {w : World} {a : Option Addr} {cap : Nat} {l : List Int} (hb : Bs w a cap l) (i : Nat) (hi : i ≤ l.length) (hpos : 0 < l.length) :
    ∃ ad, (∀ w', (Instr.slice t (.slice a l.length cap) (some (.int .i64 i)) none none).run P w' = .ok (.slice (some ad) (l.length - i) (cap - i)) w') ∧ Bs w (some ad) (cap - i) (l.drop i) := by
  have he := elem_u8 hu
  obtain ⟨b, off, rfl, _⟩ := hb.2.2.2.2 (List.length_pos_iff.1 hpos)
  have hd := hb.drop i hi
  have e : (if cap = i then some (⟨b, off, none⟩ : Addr) else Option.map (fun x : Addr => x.add i) (some (⟨b, off, none⟩ : Addr))) = some (if cap = i then (⟨b, off, none⟩ : Addr) else Addr.add ⟨b, off, none⟩ i) := by split <;> rfl
  rw [e] at hd
  refine ⟨_, fun w' => ?_, hd⟩
  rw [run_slice_l (P := P) (w := w') t (some ⟨b, off, none⟩) l.length cap (by rw [he]; exact hu) .i64 i (by omega) (by omega), he, run_size_u8 w' hsz]
  rw [← e]
  simp [Result.andThen, sliced]

set_option maxRecDepth 100000 in
set_option maxHeartbeats 4000000 in
theorem walkStampTells (n : Int) (a0 : Option Addr) (cap0 : Nat) (lb : List Int) (a1 : Option Addr) (cap1 : Nat) (l1 : List Int) (a2 : Option Addr) (cap2 : Nat) (l2 : List Int) (cut : Int) (w : World) (hg : ErrT w)
    (h0 : Bs w a0 cap0 lb) (h1 : Bs w a1 cap1 l1) (h2 : Bs w a2 cap2 l2) :
    Calls Tryd.prog 4 #[.int .i64 n, .slice a0 lb.length cap0, .slice a1 l1.length cap1, .slice a2 l2.length cap2, .int .i64 cut] w fun e w' => e = .returned (.bool true) ∧ Below w.heap.size w w' := by
  have HG := hide hg
  have H0 := hide h0
  have H1 := hide h1
  have H2 := hide h2
  have ll0 := h0.2.2.1
  have ll1 := h1.2.2.1
  have ll2 := h2.2.2.1
  have HM := hide (rMake_any n a0 cap0 lb w h0)
  clear hg h0 h1 h2
  obtain ⟨i0, hi0, hz0, hz1, hz2⟩ := info_parts info_u8
  obtain ⟨mk, hmk⟩ : ∃ mk, makeOut n lb = mk := ⟨_, rfl⟩
  obtain ⟨op, hop⟩ : ∃ op, openOut l1 = op := ⟨_, rfl⟩
  obtain ⟨ML, me⟩ := mk
  obtain ⟨on, OL, oe⟩ := op
  rw [hmk] at HM
  dsimp only at HM
  go_enter Tryd.func4, Tryd.ntmps4
  go_wp2_with fail
  refine (unhide HM).mono ?_
  rintro e w1 ⟨aw, cw, rfl, hw, hb1⟩
  have HM1 := hide (make_any n a0 cap0 lb w1 ((unhide H0).below hb1))
  rw [hmk] at HM1
  dsimp only at HM1
  have HW := hide hw
  have HB1 := hide hb1
  clear hw hb1 HM hmk
  go_wp2_with fail
  refine (unhide HM1).mono ?_
  rintro e w2 ⟨ag, cg, rfl, hgot, hb2⟩
  have hbel2 : Below w.heap.size w w2 := (unhide HB1).trans (hb2.mono (unhide HB1).size)
  have HE := hide (error_same me w2 ((unhide HG).below hbel2))
  have HW2 := hide ((unhide HW).below hb2)
  have HGOT := hide hgot
  have HB2 := hide hbel2
  clear hgot hbel2 hb2 HM1 HW HB1
  go_wp2_with fail
  refine (unhide HE).mono ?_
  rintro e w3 ⟨rfl, hb3⟩
  have hbel3 : Below w.heap.size w w3 := (unhide HB2).trans (hb3.mono (unhide HB2).size)
  have HW3 := hide ((unhide HW2).below hb3)
  have HGOT3 := hide ((unhide HGOT).below hb3)
  have HO := hide (rOpen_any a1 cap1 l1 w3 ((unhide H1).below hbel3))
  rw [hop] at HO
  dsimp only at HO
  have HB3 := hide hbel3
  clear hbel3 hb3 HW2 HGOT HB2 HE
  go_wp2_with fail
  refine (unhide HO).mono ?_
  rintro e w4 ⟨ay, cy, rfl, hy, hb4⟩
  have hbel4 : Below w.heap.size w w4 := (unhide HB3).trans (hb4.mono (unhide HB3).size)
  have HW4 := hide ((unhide HW3).below hb4)
  have HGOT4 := hide ((unhide HGOT3).below hb4)
  have HO2 := hide (open_any a1 cap1 l1 w4 ((unhide H1).below hbel4))
  rw [hop] at HO2
  dsimp only at HO2
  have HY4 := hide hy
  have HB4 := hide hbel4
  clear hbel4 hb4 hy HW3 HGOT3 HB3 HO hop
  go_wp2_with fail
  refine (unhide HO2).mono ?_
  rintro e w5 ⟨av, cv, rfl, hv, hb5⟩
  have hbel5 : Below w.heap.size w w5 := (unhide HB4).trans (hb5.mono (unhide HB4).size)
  have HE := hide (error_same oe w5 ((unhide HG).below hbel5))
  have HW5 := hide ((unhide HW4).below hb5)
  have HGOT5 := hide ((unhide HGOT4).below hb5)
  have HY5 := hide ((unhide HY4).below hb5)
  have HV5 := hide hv
  have HB5 := hide hbel5
  clear hbel5 hb5 hv HW4 HGOT4 HY4 HB4 HO2
  go_wp2_with fail
  refine (unhide HE).mono ?_
  rintro e w6 ⟨rfl, hb6⟩
  have hbel6 : Below w.heap.size w w6 := (unhide HB5).trans (hb6.mono (unhide HB5).size)
  have HW6 := hide ((unhide HW5).below hb6)
  have HGOT6 := hide ((unhide HGOT5).below hb6)
  have HY6 := hide ((unhide HY5).below hb6)
  have HV6 := hide ((unhide HV5).below hb6)
  have HB6 := hide hbel6
  have hmx := mix_any a1 a2 cap1 cap2 l1 l2 cut w6 ((unhide H1).below hbel6) ((unhide H2).below hbel6)
  clear hbel6 hb6 HW5 HGOT5 HY5 HV5 HB5 HE
  by_cases hs : ¬ (l1.length = 32 ∧ l2.length = 32)
  · have hmo : mixOut l1 l2 cut = ([], 3) := by unfold mixOut; rw [if_pos hs]
    rw [hmo] at hmx
    dsimp only at hmx
    clear hmo
    have hs2 : ¬ (l1.length : Int) = 32 ∨ ((l1.length : Int) = 32 ∧ ¬ (l2.length : Int) = 32) := by omega
    clear hs
    rcases hs2 with hs2 | ⟨hs2, hs3⟩
    · have hn := hide (bs_nil w6)
      have HMX := hide hmx
      clear hmx
      go_wp2_with fail
      refine (unhide HMX).mono ?_
      rintro e w8 ⟨am, cm, rfl, hm8, hb8⟩
      have hbel8 : Below w.heap.size w w8 := (unhide HB6).trans (hb8.mono (unhide HB6).size)
      have HE := hide (error_same 3 w8 ((unhide HG).below hbel8))
      have HM8 := hide hm8
      have HX8 := hide ((unhide hn).below hb8)
      have HW8 := hide ((unhide HW6).below hb8)
      have HGOT8 := hide ((unhide HGOT6).below hb8)
      have HY8 := hide ((unhide HY6).below hb8)
      have HV8 := hide ((unhide HV6).below hb8)
      have HB8 := hide hbel8
      clear hbel8 hb8 hm8 HMX
      go_wp2_with fail
      refine (unhide HE).mono ?_
      rintro e w9 ⟨rfl, hb9⟩
      have cv1 := bytes_str0 ((unhide HW8).below hb9)
      have cv2 := bytes_str0 ((unhide HGOT8).below hb9)
      have cv3 := bytes_str0 ((unhide HY8).below hb9)
      have cv4 := bytes_str0 ((unhide HV8).below hb9)
      have cv5 := bytes_str0 ((unhide HM8).below hb9)
      have cv6 := bytes_str0 ((unhide HX8).below hb9)
      try simp only [List.length_nil] at cv5 cv6
      have HB9 := hide ((unhide HB8).trans (hb9.mono (unhide HB8).size))
      generalize strOf ML = sM at *
      generalize strOf OL = sO at *
      generalize strOf ([] : List Int) = sZ at *
      clear hb9 HW8 HGOT8 HY8 HV8 HM8 HX8 HB8 HE
      go_wp2
      go_ret
      exact ⟨rfl, unhide HB9⟩
    · have hs4 : l1.length = 32 := by omega
      have hn := hide (bs_nil w6)
      rw [hs4] at hmx ⊢
      clear hs2 hs4
      have HMX := hide hmx
      clear hmx
      go_wp2_with fail
      refine (unhide HMX).mono ?_
      rintro e w8 ⟨am, cm, rfl, hm8, hb8⟩
      have hbel8 : Below w.heap.size w w8 := (unhide HB6).trans (hb8.mono (unhide HB6).size)
      have HE := hide (error_same 3 w8 ((unhide HG).below hbel8))
      have HM8 := hide hm8
      have HX8 := hide ((unhide hn).below hb8)
      have HW8 := hide ((unhide HW6).below hb8)
      have HGOT8 := hide ((unhide HGOT6).below hb8)
      have HY8 := hide ((unhide HY6).below hb8)
      have HV8 := hide ((unhide HV6).below hb8)
      have HB8 := hide hbel8
      clear hbel8 hb8 hm8 HMX
      go_wp2_with fail
      refine (unhide HE).mono ?_
      rintro e w9 ⟨rfl, hb9⟩
      have cv1 := bytes_str0 ((unhide HW8).below hb9)
      have cv2 := bytes_str0 ((unhide HGOT8).below hb9)
      have cv3 := bytes_str0 ((unhide HY8).below hb9)
      have cv4 := bytes_str0 ((unhide HV8).below hb9)
      have cv5 := bytes_str0 ((unhide HM8).below hb9)
      have cv6 := bytes_str0 ((unhide HX8).below hb9)
      try simp only [List.length_nil] at cv5 cv6
      have HB9 := hide ((unhide HB8).trans (hb9.mono (unhide HB8).size))
      generalize strOf ML = sM at *
      generalize strOf OL = sO at *
      generalize strOf ([] : List Int) = sZ at *
      clear hb9 HW8 HGOT8 HY8 HV8 HM8 HX8 HB8 HE
      go_wp2
      go_ret
      exact ⟨rfl, unhide HB9⟩
  · have hs1 : l1.length = 32 ∧ l2.length = 32 := by omega
    obtain ⟨hs1, hs2⟩ := hs1
    by_cases hcr : cut < 0 ∨ 32 < cut
    · have hmo : mixOut l1 l2 cut = ([], 1) := by unfold mixOut; rw [if_neg hs, if_pos hcr]
      rw [hmo] at hmx
      dsimp only at hmx
      have hn := hide (bs_nil w6)
      rw [hs1, hs2] at hmx ⊢
      clear hmo hs hs1 hs2
      rcases (show cut < 0 ∨ (¬ cut < 0 ∧ 32 < cut) by omega) with hc1 | ⟨hc1, hc2⟩
      · clear hcr
        have HMX := hide hmx
        clear hmx
        go_wp2_with fail
        refine (unhide HMX).mono ?_
        rintro e w8 ⟨am, cm, rfl, hm8, hb8⟩
        have hbel8 : Below w.heap.size w w8 := (unhide HB6).trans (hb8.mono (unhide HB6).size)
        have HE := hide (error_same 1 w8 ((unhide HG).below hbel8))
        have HM8 := hide hm8
        have HX8 := hide ((unhide hn).below hb8)
        have HW8 := hide ((unhide HW6).below hb8)
        have HGOT8 := hide ((unhide HGOT6).below hb8)
        have HY8 := hide ((unhide HY6).below hb8)
        have HV8 := hide ((unhide HV6).below hb8)
        have HB8 := hide hbel8
        clear hbel8 hb8 hm8 HMX
        go_wp2_with fail
        refine (unhide HE).mono ?_
        rintro e w9 ⟨rfl, hb9⟩
        have cv1 := bytes_str0 ((unhide HW8).below hb9)
        have cv2 := bytes_str0 ((unhide HGOT8).below hb9)
        have cv3 := bytes_str0 ((unhide HY8).below hb9)
        have cv4 := bytes_str0 ((unhide HV8).below hb9)
        have cv5 := bytes_str0 ((unhide HM8).below hb9)
        have cv6 := bytes_str0 ((unhide HX8).below hb9)
        try simp only [List.length_nil] at cv5 cv6
        have HB9 := hide ((unhide HB8).trans (hb9.mono (unhide HB8).size))
        generalize strOf ML = sM at *
        generalize strOf OL = sO at *
        generalize strOf ([] : List Int) = sZ at *
        clear hb9 HW8 HGOT8 HY8 HV8 HM8 HX8 HB8 HE
        go_wp2
        go_ret
        exact ⟨rfl, unhide HB9⟩
      · clear hcr
        have HMX := hide hmx
        clear hmx
        go_wp2_with fail
        refine (unhide HMX).mono ?_
        rintro e w8 ⟨am, cm, rfl, hm8, hb8⟩
        have hbel8 : Below w.heap.size w w8 := (unhide HB6).trans (hb8.mono (unhide HB6).size)
        have HE := hide (error_same 1 w8 ((unhide HG).below hbel8))
        have HM8 := hide hm8
        have HX8 := hide ((unhide hn).below hb8)
        have HW8 := hide ((unhide HW6).below hb8)
        have HGOT8 := hide ((unhide HGOT6).below hb8)
        have HY8 := hide ((unhide HY6).below hb8)
        have HV8 := hide ((unhide HV6).below hb8)
        have HB8 := hide hbel8
        clear hbel8 hb8 hm8 HMX
        go_wp2_with fail
        refine (unhide HE).mono ?_
        rintro e w9 ⟨rfl, hb9⟩
        have cv1 := bytes_str0 ((unhide HW8).below hb9)
        have cv2 := bytes_str0 ((unhide HGOT8).below hb9)
        have cv3 := bytes_str0 ((unhide HY8).below hb9)
        have cv4 := bytes_str0 ((unhide HV8).below hb9)
        have cv5 := bytes_str0 ((unhide HM8).below hb9)
        have cv6 := bytes_str0 ((unhide HX8).below hb9)
        try simp only [List.length_nil] at cv5 cv6
        have HB9 := hide ((unhide HB8).trans (hb9.mono (unhide HB8).size))
        generalize strOf ML = sM at *
        generalize strOf OL = sO at *
        generalize strOf ([] : List Int) = sZ at *
        clear hb9 HW8 HGOT8 HY8 HV8 HM8 HX8 HB8 HE
        go_wp2
        go_ret
        exact ⟨rfl, unhide HB9⟩
    · obtain ⟨c, rfl⟩ : ∃ c : Nat, cut = c := ⟨cut.toNat, by omega⟩
      have hc : c ≤ 32 := by omega
      clear hmx
      have hb1 := unhide H1
      have hb2 := unhide H2
      obtain ⟨x1, p1, s1⟩ := slice_hi (P := Tryd.prog) (t := 35) Tryd.underlying35 size_u8 hb1 c (by omega)
      obtain ⟨ad2, p2, s2⟩ := slice_lo' (P := Tryd.prog) (t := 35) Tryd.underlying35 size_u8 hb2 c (by omega) (by rw [hs2]; decide)
      have lt : (l1.take c).length = c := by simp; omega
      have ld : (l2.drop c).length = 32 - c := by simp; omega
      obtain ⟨ad1, rfl⟩ : ∃ ad, x1 = some ad := by
        cases x1 with
        | none => have := s1.2.2.2.1 rfl; have := hb1.2.1; omega
        | some ad => exact ⟨ad, rfl⟩
      have hmo : mixOut l1 l2 c = (mixL l1 l2 c, 0) := by unfold mixOut; rw [if_neg hs, if_neg hcr, Int.toNat_natCast]
      have hmx0 : ∀ w7, Below w6.heap.size w6 w7 → Calls Tryd.prog 26 #[.slice a1 32 cap1, .slice a2 32 cap2, .int .i64 c] w7 (Ends w7 (mixL l1 l2 c) (errV 0)) := fun w7 hb7 => by
        have := mix_any a1 a2 cap1 cap2 l1 l2 c w7 ((unhide H1).below ((unhide HB6).trans (hb7.mono (unhide HB6).size))) ((unhide H2).below ((unhide HB6).trans (hb7.mono (unhide HB6).size)))
        rw [hmo, hs1, hs2] at this
        exact this
      have HMX0 := hide hmx0
      have hlz := length_mixL l1 l2 c hs1 hs2 hc
      have hbz := byt_mixL (unhide H1).1 (unhide H2).1 c
      have hcat : (l1.take c).map (Value.int .u8) ++ (l2.drop c).map (Value.int .u8) = (mixL l1 l2 c).map (Value.int .u8) := by unfold mixL; rw [List.map_append]
      rw [hs1] at p1
      rw [hs2] at p2
      rw [hs1, hs2]
      have hc0 : (0 : Int) ≤ (c : Int) := by omega
      have hc1 : (c : Int) ≤ 32 := by omega
      have S1 := hide (s1.below (unhide HB6))
      have S2 := hide (s2.below (unhide HB6))
      have HCAT := hide hcat
      have HBZ := hide hbz
      have HLZ := hide hlz
      have HLT := hide lt
      have HLD := hide ld
      clear hmx0 s1 s2 hmo hs hs1 hs2 hcr hb1 hb2 hcat hbz hlz lt ld
      generalize l1.take c = L at *
      generalize l2.drop c = M at *
      generalize mixL l1 l2 c = Z at *
      go_wp2_with (at_builtin; refine wpList_append_own_at _ rfl _ _ 35 rfl w6.heap.size 5 i0 (.int .u8 0) 1 1 Tryd.underlying35 hi0 hz0 hz1 hz2 rfl (by decide) _ _ _ rfl (OwnV.nil w6 w6.heap.size) ad1 c cap1 (L.map (Value.int .u8)) rfl (by rw [List.length_map, unhide HLT, Nat.mul_one]) (news_bs (unhide S1)) (oneCell_u8 L) (by unfold maxLen; simp; omega) (by simp; omega) (Nat.le_refl _) ?_)
      intro v7 w7 hown7 hgrow7 _ _
      have hown7' : w7.ownsRow w6.heap.size 5 1 v7 c (L.map (Value.int .u8)) := by simpa using hown7
      have hb7 : Below w6.heap.size w6 w7 := (Below.refl _ _).grown hgrow7 (Nat.le_refl _) (fun k hk => by cases hk)
      have HOWN := hide hown7'
      have HB7 := hide hb7
      have hsz7 := hb7.size
      have HBK : Hid (∀ k, v7.ownBlock = some k → w6.heap.size ≤ k) := hide (fun k hk => by
        rcases hown7'.2 with ⟨rfl, _⟩ | ⟨g, cap, cur, rfl, hB, _⟩
        · cases hk
        · simp [Value.ownBlock] at hk
          omega)
      clear hown7 hown7' hgrow7 hb7
      go_wp2_with (at_builtin; refine wpList_append_own_at _ rfl _ _ 35 rfl w6.heap.size 5 i0 (.int .u8 0) 1 1 Tryd.underlying35 hi0 hz0 hz1 hz2 rfl (by decide) _ _ _ rfl (unhide HOWN) ad2 (32 - c) (cap2 - c) (M.map (Value.int .u8)) rfl (by rw [List.length_map, unhide HLD, Nat.mul_one]) (news_bs ((unhide S2).below (unhide HB7))) (oneCell_u8 M) (by unfold maxLen; omega) (by omega) (by omega) ?_)
      intro v10 w10 hown10 hgrow10 _ _
      have hown10' : OwnV w10 w6.heap.size v10 Z := by
        unfold OwnV
        rw [unhide HLZ, ← unhide HCAT]
        exact hown10
      obtain ⟨ax, cx, rfl, hx10⟩ := hown10'.bs (unhide HBZ) (by rw [unhide HLZ]; decide)
      have hb10 : Below w6.heap.size w6 w10 := (unhide HB7).grown hgrow10 (by omega) (unhide HBK)
      have HB76 := hide hb10
      have HBW := hide ((unhide HB6).trans (hb10.mono (unhide HB6).size))
      have HX10 := hide hx10
      have hmx := (unhide HMX0) w10 hb10
      clear hown10 hgrow10 hown10' hb10 hx10 HOWN HBK HMX0 S1 S2
      have HMX := hide hmx
      clear hmx
      go_wp2_with fail
      refine (unhide HMX).mono ?_
      rintro e w8 ⟨am, cm, rfl, hm8, hb8⟩
      have hbel8 : Below w.heap.size w w8 := (unhide HBW).trans (hb8.mono (unhide HBW).size)
      have HE := hide (error_same 0 w8 ((unhide HG).below hbel8))
      have HM8 := hide hm8
      have HX8 := hide ((unhide HX10).below hb8)
      have HW8 := hide (((unhide HW6).below (unhide HB76)).below hb8)
      have HGOT8 := hide (((unhide HGOT6).below (unhide HB76)).below hb8)
      have HY8 := hide (((unhide HY6).below (unhide HB76)).below hb8)
      have HV8 := hide (((unhide HV6).below (unhide HB76)).below hb8)
      have HB8 := hide hbel8
      clear hbel8 hb8 hm8 HMX
      rw [errV_zero]
      go_wp2_with fail
      refine (unhide HE).mono ?_
      rintro e w9 ⟨rfl, hb9⟩
      have cv1 := bytes_str0 ((unhide HW8).below hb9)
      have cv2 := bytes_str0 ((unhide HGOT8).below hb9)
      have cv3 := bytes_str0 ((unhide HY8).below hb9)
      have cv4 := bytes_str0 ((unhide HV8).below hb9)
      have cv5 := bytes_str0 ((unhide HM8).below hb9)
      have cv6 := bytes_str0 ((unhide HX8).below hb9)
      have HB9 := hide ((unhide HB8).trans (hb9.mono (unhide HB8).size))
      generalize strOf ML = sM at *
      generalize strOf OL = sO at *
      generalize strOf Z = sZ at *
      clear hb9 HW8 HGOT8 HY8 HV8 HM8 HX8 HB8 HE
      go_wp2
      go_ret
      exact ⟨rfl, unhide HB9⟩
end Go.Proofs.YtnpdejlbknjhnaaDoor
