/-
  The walk of MoveTells. (Part of the proof of MoveTells.)
-/
import Derived.Test.YtopblhmbjdfebaaGreatJMx
import Derived.Test.YtopblhmbjdfebaaGreatJRc
import Derived.Test.YtopblhmbjdfebaaGreatJRx
namespace Go.Proofs.YtopblhmbjdfebaaGreat
open Go.RowKit Go.Sort
set_option linter.unusedVariables false

/-- A slice that reads as some bytes, of which no block is among those of a heap that was there. -/
theorem BsO.of_fr {w : World} {S : Nat → Prop} {B : Nat} {a : Option Addr} {c : Nat} {l : List Int} (h : Bs w a c l) (hf : Fr B a) (hS : ∀ k, S k → k < B) : BsO w S a c l :=
  ⟨h, fun _ x hx hs => by have h1 := hf x hx; have h2 := hS _ hs; omega⟩
theorem Hp.foot_lt {w : World} {B p g c : Nat} {L : List Int} (h : Hp w B p g c L) : ∀ k, foot p g k → k < w.heap.size := fun k hk => by
  rcases hk with rfl | rfl
  · exact h.plt
  · exact h.glt
/-- The image as a text, and another slice that reads the same, as a text. -/
theorem bytes_txt (p g c B : Nat) (L : List Int) (aw : Option Addr) (cw : Nat) (w : World) (hh : Hp w B p g c L) (hw : Bs w aw cw L) :
    Calls Tryz.prog 9 #[.pointer (some ⟨p, 0, none⟩)] w fun e w' => ∃ a' c', e = .returned (.slice a' L.length c') ∧ (convert 22 9 (.slice a' L.length c')).run Tryz.prog w' = .ok (.string (strOf L)) w' ∧ (convert 22 9 (.slice aw L.length cw)).run Tryz.prog w' = .ok (.string (strOf L)) w' ∧ Below w.heap.size w w' :=
  (hBytes_any p g c B L w hh).mono fun e w' ⟨a', c', he, ho, hb⟩ => ⟨a', c', he, by
    obtain ⟨a2, c2, e2, hbs⟩ := ho.bs hh.byt (by have := hh.len; omega)
    simp only [Value.slice.injEq, true_and] at e2
    obtain ⟨rfl, rfl⟩ := e2
    exact conv_str Tryz.underlying22 Tryz.underlying5 Tryz.underlying9 hbs, conv_str Tryz.underlying22 Tryz.underlying5 Tryz.underlying9 (hw.below hb), hb⟩
theorem take_chk2 {L : List Int} (hf : Fine L) : chk ((L.length : Int) - 288) (takeL L) = 0 := by
  have hl := hf.len
  exact chk_zero.2 ⟨by omega, by omega, by have := takeL_len L; omega, take_good hf⟩
theorem take_in {L : List Int} (hf : Fine L) : ∀ e ∈ takeL L, InI e := fun e he => by
  have hl := hf.len
  obtain ⟨h, h1, h2, h3, rfl⟩ := mem_takeL.1 he
  have := hf.ent h1 h2 h3
  unfold InI shE
  dsimp only
  omega
set_option maxRecDepth 100000 in
set_option maxHeartbeats 8000000 in
theorem walkMoveTells (a : Option Addr) (cap : Nat) (b : List Int) (w : World) (hb : Bs w a cap b) :
    Calls Tryz.prog 4 #[.slice a b.length cap] w fun e w' => e = .returned (.bool true) ∧ Below w.heap.size w w' := by
  have hbl := hb.2.2.1
  have HL := hide (loadedO_any a cap b w hb)
  have hf := ldL_fine b
  have hl := hf.len
  have htl := takeL_len (ldL b)
  have hch := take_chk2 hf
  have HF := hide hf
  have HTI := hide (take_in hf)
  have h40 := mvN_forty (L := ldL b)
  have hst : stT (((ldL b).length : Int) - 288) (takeL (ldL b)) = (((takeL (ldL b)).length : Int), lenSum (takeL (ldL b)), lenSum (freeL (((ldL b).length : Int) - 288) (takeL (ldL b))), mostOf 0 (freeL (((ldL b).length : Int) - 288) (takeL (ldL b))), ((freeL (((ldL b).length : Int) - 288) (takeL (ldL b))).length : Int)) := by unfold stT; rw [if_pos hch]
  have HSTAT := hide (fun (W : World) (q : Option Addr) (cq : Nat) (hx : Exs W q cq (takeL (ldL b))) => rstat_any (((ldL b).length : Int) - 288) q cq (takeL (ldL b)) W hx hch _ _ _ _ _ hst)
  have hgd : 0 ≤ lenSum (freeL (((ldL b).length : Int) - 288) (takeL (ldL b))) ∧ lenSum (freeL (((ldL b).length : Int) - 288) (takeL (ldL b))) ≤ 6400 * 201 ∧ 0 ≤ mostOf 0 (freeL (((ldL b).length : Int) - 288) (takeL (ldL b))) ∧ mostOf 0 (freeL (((ldL b).length : Int) - 288) (takeL (ldL b))) ≤ lenSum (freeL (((ldL b).length : Int) - 288) (takeL (ldL b))) := by
    have := gn_bd hf
    rw [tk_free_up hf, lenSum_up, most_up] at this
    exact this
  have HGN : Hid (gnL (ldL b) = lenSum (freeL (((ldL b).length : Int) - 288) (takeL (ldL b))) - mostOf 0 (freeL (((ldL b).length : Int) - 288) (takeL (ldL b)))) := hide rfl
  have HTK := hide (fun (W : World) (q : Option Addr) (cq : Nat) (hbs : Bs W q cq (ldL b)) => sTaken_any q cq (ldL b) W hbs hf)
  have HGAIN := hide (fun (W : World) (B p g c : Nat) (h : Hp W B p g c (ldL b)) => mvGain_any h)
  have HALL := hide (fun (W : World) (B p g c : Nat) (h : Hp W B p g c (ldL b)) (hB : B ≤ W.heap.size) => mvAll_any h hB)
  have HAL := hide (mvA_as hf).1.len
  have H0 : Hid (∃ X : List Int, X = ldL b ∧ Fine X ∧ 0 + mvN 288 (srtE X) = mvN 288 (srtE (ldL b)) ∧ mvA X = mvA (ldL b)) := hide ⟨ldL b, rfl, hf, Nat.zero_add _, rfl⟩
  clear hb hf hch hst
  generalize lenSum (freeL (((ldL b).length : Int) - 288) (takeL (ldL b))) = F at *
  generalize mostOf 0 (freeL (((ldL b).length : Int) - 288) (takeL (ldL b))) = M at *
  generalize ((freeL (((ldL b).length : Int) - 288) (takeL (ldL b))).length : Int) = R at *
  generalize lenSum (takeL (ldL b)) = U at *
  generalize takeL (ldL b) = TL at *
  generalize gnL (ldL b) = GN at *
  generalize mvN 288 (srtE (ldL b)) = K at *
  generalize mvA (ldL b) = MA at *
  generalize ldL b = L at *
  generalize hN : L.length = N at *
  have HN := hide hN
  clear hN
  go_enter Tryz.func4, Tryz.ntmps4
  go_wp2_with fail
  refine (unhide HL).mono ?_
  rintro e w1 ⟨p, g, c, am, cm, rfl, hh1, hm1, hb1⟩
  have HTK1 := hide (unhide HTK w1 am cm hm1.1)
  have HH1 := hide hh1
  have HM1 := hide hm1
  have HB1 := hide hb1
  clear hh1 hm1 hb1 HL HTK
  go_wp2_with fail
  refine (unhide HTK1).mono ?_
  rintro e w2 ⟨v2, rfl, ho2, hb2⟩
  have ho2' : ExO w2 w1.heap.size v2 TL := ho2
  obtain ⟨a2, c2, rfl, hx2⟩ := ho2'.exs (unhide HTI) (by omega)
  have HS2 := hide (unhide HSTAT w2 a2 c2 hx2)
  have HH2 := hide ((unhide HH1).below hb2)
  have HM2 := hide ((unhide HM1).below hb2)
  have HB2 := hide ((unhide HB1).trans (hb2.mono (unhide HB1).size))
  clear ho2 ho2' hx2 hb2 HTK1 HSTAT HH1 HM1 HB1 HTI
  go_wp2_with fail
  refine (unhide HS2).mono ?_
  rintro e w3 ⟨rfl, hb3⟩
  have hh3 := (unhide HH2).below hb3
  have hm3 := (unhide HM2).below hb3
  have hB3 := (unhide HB2).trans (hb3.mono (unhide HB2).size)
  have hba : Below w3.heap.size w3 (w3.alloc (.cells #[.int .i64 TL.length, .int .i64 U, .int .i64 F, .int .i64 M, .int .i64 R] 55)) := (Below.refl _ _).alloc (Nat.le_refl _) _
  have hsb := StB.new w3 (TL.length : Int) U F M R
  have hh4 := hh3.below hba
  have hm4 := hm3.below hba
  have hB4 := hB3.trans (hba.mono hB3.size)
  have hnf : ¬ foot p g w3.heap.size := fun hk => by have := hh3.foot_lt _ hk; omega
  have HG4 := hide (unhide HGAIN _ _ p g c hh4)
  have HH4 := hide hh4
  have HM4 := hide hm4
  have HB4 := hide hB4
  have HSB4 := hide hsb
  generalize hw4 : w3.alloc (.cells #[.int .i64 TL.length, .int .i64 U, .int .i64 F, .int .i64 M, .int .i64 R] 55) = w4 at *
  have HW4 := hide hw4
  clear hb3 hh3 hm3 hB3 hba hsb hh4 hm4 hB4 HS2 HH2 HM2 HB2 HGAIN hw4
  go_wp2_with fail
  try rw [unhide HW4]
  refine (unhide HG4).mono ?_
  rintro e w5 ⟨rfl, hb5⟩
  generalize hgs : w3.heap.size = gs at *
  have HH5 := hide ((unhide HH4).below hb5)
  have HM5 := hide ((unhide HM4).below hb5)
  have HB5 := hide ((unhide HB4).trans (hb5.mono (unhide HB4).size))
  have HSB5 := hide ((unhide HSB4).below hb5 (unhide HSB4).lt)
  clear hb5 HG4 HH4 HM4 HB4 HSB4 HW4 hgs
  go_wp2_with fail
  go_loopw [7, 8] (fun kv xv wr => ∃ (k : Nat) (q : Option Addr) (cq : Nat) (X : List Int), k ≤ K ∧ kv = .int .i64 k ∧ xv = .slice q N cq ∧ (Fine X ∧ X.length = N ∧ k + mvN 288 (srtE X) = K ∧ mvA X = MA) ∧ BsO wr (foot p g) q cq X ∧ Hp wr w.heap.size p g c L ∧ StB wr gs TL.length U F M R ∧ Below w.heap.size w wr) (fun kv _ _ => 41 - (intOf kv).toNat)
  case atStart =>
    obtain ⟨X, rfl, m1, m3, m4⟩ := unhide H0
    exact ⟨0, am, cm, X, Nat.zero_le _, rfl, rfl, ⟨m1, unhide HN, m3, m4⟩, unhide HM5, unhide HH5, unhide HSB5, unhide HB5⟩
  case round =>
    obtain ⟨k, q, cq, X, hk, rfl, rfl, ⟨m1, m2, m3, m4⟩, hq, hh, hsb, hbel⟩ := hrel
    clear HH5 HM5 HB5 HSB5 H0
    have HSTP := hide (sStep_any q cq X wr hq.1 m1)
    rw [m2] at HSTP
    have HQ := hide hq
    have HH := hide hh
    have HSB := hide hsb
    have HBEL := hide hbel
    cases hms : mvS X with
    | some C =>
      rw [hms] at HSTP
      obtain ⟨has, hn⟩ := step_as m1 hms
      have H1 := hide has.fine
      have H2 : Hid (C.length = N) := hide (by rw [has.len]; exact m2)
      have H3 : Hid (k + 1 + mvN 288 (srtE C) = K) := hide (by omega)
      have H4 : Hid (mvA C = MA) := hide (by rw [← m4, mvA_some m1 hms])
      have hkK : k + 1 ≤ K := by omega
      have HXN : Hid (X ≠ []) := hide (by intro e; rw [e] at m2; simp at m2; omega)
      clear hq hh hsb hbel m1 m2 m3 m4 hms has hn HALL
      dsimp only [Option.isSome, Option.getD] at HSTP
      go_wp2_with fail
      refine (unhide HSTP).mono ?_
      rintro e w6 ⟨a6, c6, rfl, hbs6, hb6, hor⟩
      have hQ6 : BsO w6 (foot p g) a6 c6 C := by
        rcases hor with ⟨rfl, rfl⟩ | hfr
        · exact ⟨hbs6, fun _ => (unhide HQ).2 (unhide HXN)⟩
        · exact BsO.of_fr hbs6 hfr (unhide HH).foot_lt
      have HQ6 := hide hQ6
      have HH6 := hide ((unhide HH).below hb6)
      have HSB6 := hide ((unhide HSB).below hb6 (unhide HSB).lt)
      have HB6 := hide ((unhide HBEL).trans (hb6.mono (unhide HBEL).size))
      clear hbs6 hb6 hor hQ6 HSTP HQ HH HSB HBEL
      go_wp2
      go_roundw
      case rel => exact ⟨k + 1, a6, c6, C, hkK, by go_num, rfl, ⟨unhide H1, unhide H2, unhide H3, unhide H4⟩, unhide HQ6, unhide HH6, unhide HSB6, unhide HB6⟩
      case measure => simp [intOf]; omega
    | none =>
      rw [hms] at HSTP
      have hK : k = K := by have := (mvS_none m1 hms).2; omega
      have hXA : X = MA := by rw [← m4, mvA_none hms]
      subst hXA
      subst hK
      have HXN : Hid (X ≠ []) := hide (by intro e; rw [e] at m2; simp at m2; omega)
      have HX2 := hide m2
      clear hq hh hsb hbel m1 m2 m3 m4 hms
      dsimp only [Option.isSome, Option.getD] at HSTP
      go_wp2_with fail
      refine (unhide HSTP).mono ?_
      rintro e w6 ⟨a6, c6, rfl, _, hb6, _⟩
      have hQ6 := (unhide HQ).below hb6
      have hh6 := (unhide HH).below hb6
      have hsb6 := (unhide HSB).below hb6 (unhide HSB).lt
      have hB6 := (unhide HBEL).trans (hb6.mono (unhide HBEL).size)
      have HA6 := hide (unhide HALL w6 _ p g c hh6 hB6.size)
      have HQ6 := hide hQ6
      have HH6 := hide hh6
      have HSB6 := hide hsb6
      have HB6 := hide hB6
      clear hb6 hQ6 hh6 hsb6 hB6 HSTP HQ HH HSB HBEL HALL
      go_wp2_with fail
      refine (unhide HA6).mono ?_
      rintro e w7 ⟨rfl, g7, c7, hh7, ht7⟩
      have hB7 := (unhide HB6).trans (ht7.below (unhide HH6).foot_ge (unhide HB6).size)
      have hQ7 := (unhide HQ6).turn ht7
      have hsb7 : StB w7 gs TL.length U F M R := (ht7.block gs (unhide HSB6).lt hnf).trans (unhide HSB6)
      obtain ⟨s0, s1, s2, s3, s4⟩ := hsb7.cells
      have hbd : Below w7.heap.size w7 w7.drew := below_drew (Below.refl _ _)
      have hcv := conv_str (P := Tryz.prog) (t := 22) (e := 9) Tryz.underlying22 Tryz.underlying5 Tryz.underlying9 (hQ7.1.below hbd)
      have HEND : Hid (Calls Tryz.prog 9 #[.pointer (some ⟨p, 0, none⟩)] w7.drew fun e w8 => ∃ a8 c8, e = .returned (.slice a8 N c8) ∧ (convert 22 9 (.slice a8 N c8)).run Tryz.prog w8 = .ok (.string (strOf X)) w8 ∧ ((convert 22 9 (.slice q N cq)).run Tryz.prog w8 = .ok (.string (strOf X)) w8 ∧ w8.cell? ⟨gs, 2, none⟩ = some (.int .i64 F) ∧ w8.cell? ⟨gs, 3, none⟩ = some (.int .i64 M)) ∧ Below w.heap.size w w8) := hide (by
        have := bytes_txt p g7 c7 w.heap.size X q cq w7.drew (hh7.below hbd) (hQ7.1.below hbd)
        rw [unhide HX2] at this
        refine this.mono ?_
        rintro e w8 ⟨a8, c8, rfl, k1, k2, hb8⟩
        have hb8' := hbd.trans (hb8.mono hbd.size)
        exact ⟨a8, c8, rfl, k1, ⟨k2, (hb8'.cell (p := ⟨gs, 2, none⟩) hsb7.lt).trans s2, (hb8'.cell (p := ⟨gs, 3, none⟩) hsb7.lt).trans s3⟩, hB7.trans (hb8'.mono hB7.size)⟩)
      rw [unhide HX2] at hcv
      have hgn := unhide HGN
      subst hgn
      have hwr : IntKind.i64.wrap (F - M) = F - M := by rw [IntKind.wrap_i64]; omega
      clear hh7 ht7 hB7 hQ7 hsb7 HA6 HQ6 HH6 HSB6 HB6 s0 s1 s4 hbd HXN HX2 HGN
      generalize strOf X = SX at *
      go_wp2_with fail
      refine wp_region_held_drew (S := fun wq => (convert 22 9 (.slice q N cq)).run Tryz.prog wq = .ok (.string SX) wq ∧ wq.cell? ⟨gs, 2, none⟩ = some (.int .i64 F) ∧ wq.cell? ⟨gs, 3, none⟩ = some (.int .i64 M)) (by kernel_rfl) ⟨hcv, s2, s3⟩ (fun hHeld => ?_)
      refine wpAnyH_take (i := 0) (oi := { dst := some 44, op := Op.move (Operand.tmp 12), type := 32, pos := "law.go:480", after := #[], guard := none }) (v := .nilIface) rfl (by kernel_rfl) (by kernel_rfl) (by kernel_rfl) (fun _ _ _ h => h) (Or.inl ⟨by rfl, fun wq hSw => by (try dsimp only at hSw); go_simp⟩) (by assumption) ?_
      try simp only [Act.put, List.setIfInBounds_toArray, List.set_cons_zero, List.set_cons_succ]
      refine wpAnyH_take (i := 1) (oi := { dst := some 45, op := Op.binOp BinOp.eql 32 (Operand.tmp 44) (Operand.const Value.nilIface) 32, type := 4, pos := "law.go:480", after := #[{ on := 0, ground := Ground.data }], guard := none }) (v := .bool true) rfl (by kernel_rfl) (by kernel_rfl) (by kernel_rfl) (fun _ _ _ h => h) (Or.inl ⟨by rfl, fun wq hSw => by (try dsimp only at hSw); go_simp⟩) (by assumption) ?_
      try simp only [Act.put, List.setIfInBounds_toArray, List.set_cons_zero, List.set_cons_succ]
      refine wpAnyH_take (i := 2) (oi := { dst := some 46, op := Op.move (Operand.tmp 45), type := 4, pos := "law.go:480", after := #[{ on := 1, ground := Ground.data }], guard := none }) (v := .bool true) rfl (by kernel_rfl) (by kernel_rfl) (by kernel_rfl) (fun _ _ _ h => h) (Or.inl ⟨by rfl, fun wq hSw => by (try dsimp only at hSw); go_simp⟩) (by assumption) ?_
      try simp only [Act.put, List.setIfInBounds_toArray, List.set_cons_zero, List.set_cons_succ]
      refine wpAnyH_take (i := 3) (oi := { dst := some 47, op := Op.move (Operand.tmp 11), type := 3, pos := "law.go:480", after := #[{ on := 2, ground := Ground.guard }], guard := some (2, true) }) (v := .int .i64 k) rfl (by kernel_rfl) (by kernel_rfl) (by kernel_rfl) (fun _ _ _ h => h) (Or.inl ⟨by rfl, fun wq hSw => by (try dsimp only at hSw); go_simp⟩) (by assumption) ?_
      try simp only [Act.put, List.setIfInBounds_toArray, List.set_cons_zero, List.set_cons_succ]
      refine wpAnyH_take (i := 4) (oi := { dst := some 48, op := Op.move (Operand.tmp 7), type := 3, pos := "law.go:480", after := #[{ on := 2, ground := Ground.guard }], guard := some (2, true) }) (v := .int .i64 k) rfl (by kernel_rfl) (by kernel_rfl) (by kernel_rfl) (fun _ _ _ h => h) (Or.inl ⟨by rfl, fun wq hSw => by (try dsimp only at hSw); go_simp⟩) (by assumption) ?_
      try simp only [Act.put, List.setIfInBounds_toArray, List.set_cons_zero, List.set_cons_succ]
      refine wpAnyH_take (i := 5) (oi := { dst := some 49, op := Op.binOp BinOp.eql 3 (Operand.tmp 47) (Operand.tmp 48) 3, type := 4, pos := "law.go:480", after := #[{ on := 3, ground := Ground.data }, { on := 4, ground := Ground.data }, { on := 2, ground := Ground.guard }], guard := some (2, true) }) (v := .bool true) rfl (by kernel_rfl) (by kernel_rfl) (by kernel_rfl) (fun _ _ _ h => h) (Or.inl ⟨by rfl, fun wq hSw => by (try dsimp only at hSw); go_simp⟩) (by assumption) ?_
      try simp only [Act.put, List.setIfInBounds_toArray, List.set_cons_zero, List.set_cons_succ]
      refine wpAnyH_take (i := 6) (oi := { dst := some 50, op := Op.pick (Operand.tmp 46) (Operand.tmp 49) (Operand.const (Value.bool false)), type := 4, pos := "law.go:480", after := #[{ on := 2, ground := Ground.data }, { on := 5, ground := Ground.data }], guard := none }) (v := .bool true) rfl (by kernel_rfl) (by kernel_rfl) (by kernel_rfl) (fun _ _ _ h => h) (Or.inl ⟨by rfl, fun wq hSw => by (try dsimp only at hSw); go_simp⟩) (by assumption) ?_
      try simp only [Act.put, List.setIfInBounds_toArray, List.set_cons_zero, List.set_cons_succ]
      refine wpAnyH_take (i := 7) (oi := { dst := some 51, op := Op.move (Operand.tmp 50), type := 4, pos := "law.go:480", after := #[{ on := 6, ground := Ground.data }, { on := 2, ground := Ground.chain }], guard := none }) (v := .bool true) rfl (by kernel_rfl) (by kernel_rfl) (by kernel_rfl) (fun _ _ _ h => h) (Or.inl ⟨by rfl, fun wq hSw => by (try dsimp only at hSw); go_simp⟩) (by assumption) ?_
      try simp only [Act.put, List.setIfInBounds_toArray, List.set_cons_zero, List.set_cons_succ]
      refine wpAnyH_take (i := 8) (oi := { dst := some 52, op := Op.move (Operand.tmp 3), type := 25, pos := "law.go:480", after := #[{ on := 7, ground := Ground.guard }], guard := some (7, true) }) (v := .pointer (some ⟨p, 0, none⟩)) rfl (by kernel_rfl) (by kernel_rfl) (by kernel_rfl) (fun _ _ _ h => h) (Or.inl ⟨by rfl, fun wq hSw => by (try dsimp only at hSw); go_simp⟩) (by assumption) ?_
      try simp only [Act.put, List.setIfInBounds_toArray, List.set_cons_zero, List.set_cons_succ]
      refine wpAnyH_take (i := 11) (oi := { dst := some 55, op := Op.move (Operand.tmp 8), type := 22, pos := "law.go:480", after := #[{ on := 7, ground := Ground.guard }], guard := some (7, true) }) (v := .slice q N cq) rfl (by kernel_rfl) (by kernel_rfl) (by kernel_rfl) (fun _ _ _ h => h) (Or.inl ⟨by rfl, fun wq hSw => by (try dsimp only at hSw); go_simp⟩) (by assumption) ?_
      try simp only [Act.put, List.setIfInBounds_toArray, List.set_cons_zero, List.set_cons_succ]
      refine wpAnyH_take (i := 12) (oi := { dst := some 56, op := Op.convert 22 9 (Operand.tmp 55), type := 9, pos := "law.go:480", after := #[{ on := 11, ground := Ground.data }, { on := 7, ground := Ground.guard }], guard := some (7, true) }) (v := .string SX) rfl (by kernel_rfl) (by kernel_rfl) (by kernel_rfl) (fun _ _ _ h => h) (Or.inl ⟨by rfl, fun wq hSw => by (try dsimp only at hSw); go_simp⟩) (by assumption) ?_
      try simp only [Act.put, List.setIfInBounds_toArray, List.set_cons_zero, List.set_cons_succ]
      refine wpAnyH_ready (rs := [9]) (by kernel_rfl) (by simp) ?_
      refine AllReadyH.cons (o := { dst := some 53, op := Op.call { callee := Callee.value (Operand.func 9), args := #[Operand.tmp 52], argTypes := #[25] }, type := 22, pos := "law.go:480", after := #[{ on := 8, ground := Ground.data }, { on := 7, ground := Ground.chain }, { on := 7, ground := Ground.guard }], guard := some (7, true) }) rfl (fun K hK => ?_) AllReadyH.nil
      go_simp
      refine (unhide HEND).mono ?_
      rintro e w8 ⟨a8, c8, rfl, k1, k2, hb8⟩
      refine hK.out _ _ k2 (fun _ => wpAnyH_turn (S2 := fun wq => ((convert 22 9 (.slice q N cq)).run Tryz.prog wq = .ok (.string SX) wq ∧ wq.cell? ⟨gs, 2, none⟩ = some (.int .i64 F) ∧ wq.cell? ⟨gs, 3, none⟩ = some (.int .i64 M)) ∧ (convert 22 9 (.slice a8 N c8)).run Tryz.prog wq = .ok (.string SX) wq) (fun _ h => h.1) _ _ _ _ ?_)
      have hHeld2 := And.intro k2 k1
      clear hK K hHeld
      try simp only [Act.put, List.setIfInBounds_toArray, List.set_cons_zero, List.set_cons_succ]
      refine wpAnyH_take (i := 10) (oi := { dst := some 54, op := Op.convert 22 9 (Operand.tmp 53), type := 9, pos := "law.go:480", after := #[{ on := 9, ground := Ground.data }, { on := 7, ground := Ground.guard }], guard := some (7, true) }) (v := .string SX) rfl (by kernel_rfl) (by kernel_rfl) (by kernel_rfl) (fun _ _ _ h => h) (Or.inl ⟨by rfl, fun wq hSw => by (try dsimp only at hSw); go_simp⟩) (by assumption) ?_
      try simp only [Act.put, List.setIfInBounds_toArray, List.set_cons_zero, List.set_cons_succ]
      refine wpAnyH_take (i := 13) (oi := { dst := some 57, op := Op.binOp BinOp.eql 9 (Operand.tmp 54) (Operand.tmp 56) 9, type := 4, pos := "law.go:480", after := #[{ on := 10, ground := Ground.data }, { on := 12, ground := Ground.data }, { on := 7, ground := Ground.guard }], guard := some (7, true) }) (v := .bool true) rfl (by kernel_rfl) (by kernel_rfl) (by kernel_rfl) (fun _ _ _ h => h) (Or.inl ⟨by rfl, fun wq hSw => by (try dsimp only at hSw); go_simp⟩) (by assumption) ?_
      try simp only [Act.put, List.setIfInBounds_toArray, List.set_cons_zero, List.set_cons_succ]
      refine wpAnyH_take (i := 14) (oi := { dst := some 58, op := Op.pick (Operand.tmp 51) (Operand.tmp 57) (Operand.const (Value.bool false)), type := 4, pos := "law.go:480", after := #[{ on := 7, ground := Ground.data }, { on := 13, ground := Ground.data }], guard := none }) (v := .bool true) rfl (by kernel_rfl) (by kernel_rfl) (by kernel_rfl) (fun _ _ _ h => h) (Or.inl ⟨by rfl, fun wq hSw => by (try dsimp only at hSw); go_simp⟩) (by assumption) ?_
      try simp only [Act.put, List.setIfInBounds_toArray, List.set_cons_zero, List.set_cons_succ]
      refine wpAnyH_take (i := 15) (oi := { dst := some 59, op := Op.move (Operand.tmp 58), type := 4, pos := "law.go:480", after := #[{ on := 14, ground := Ground.data }, { on := 9, ground := Ground.chain }], guard := none }) (v := .bool true) rfl (by kernel_rfl) (by kernel_rfl) (by kernel_rfl) (fun _ _ _ h => h) (Or.inl ⟨by rfl, fun wq hSw => by (try dsimp only at hSw); go_simp⟩) (by assumption) ?_
      try simp only [Act.put, List.setIfInBounds_toArray, List.set_cons_zero, List.set_cons_succ]
      refine wpAnyH_take (i := 16) (oi := { dst := some 60, op := Op.move (Operand.tmp 6), type := 3, pos := "law.go:480", after := #[{ on := 15, ground := Ground.guard }], guard := some (15, true) }) (v := .int .i64 (F - M)) rfl (by kernel_rfl) (by kernel_rfl) (by kernel_rfl) (fun _ _ _ h => h) (Or.inl ⟨by rfl, fun wq hSw => by (try dsimp only at hSw); go_simp⟩) (by assumption) ?_
      try simp only [Act.put, List.setIfInBounds_toArray, List.set_cons_zero, List.set_cons_succ]
      refine wpAnyH_take (i := 17) (oi := { dst := some 61, op := Op.fieldAddr 55 (Operand.tmp 5) 2, type := 0, pos := "law.go:480", after := #[{ on := 15, ground := Ground.guard }], guard := some (15, true) }) (v := .pointer (some ⟨gs, 2, none⟩)) rfl (by kernel_rfl) (by kernel_rfl) (by kernel_rfl) (fun _ _ _ h => h) (Or.inl ⟨by rfl, fun wq hSw => by (try dsimp only at hSw); go_simp⟩) (by assumption) ?_
      try simp only [Act.put, List.setIfInBounds_toArray, List.set_cons_zero, List.set_cons_succ]
      refine wpAnyH_take (i := 18) (oi := { dst := some 62, op := Op.load 3 (Operand.tmp 61), type := 3, pos := "law.go:480", after := #[{ on := 17, ground := Ground.data }, { on := 15, ground := Ground.guard }], guard := some (15, true) }) (v := .int .i64 F) rfl (by kernel_rfl) (by kernel_rfl) (by kernel_rfl) (fun _ _ _ h => h) (Or.inl ⟨by rfl, fun wq hSw => by (try dsimp only at hSw); go_simp⟩) (by assumption) ?_
      try simp only [Act.put, List.setIfInBounds_toArray, List.set_cons_zero, List.set_cons_succ]
      refine wpAnyH_take (i := 19) (oi := { dst := some 63, op := Op.fieldAddr 55 (Operand.tmp 5) 3, type := 0, pos := "law.go:480", after := #[{ on := 15, ground := Ground.guard }], guard := some (15, true) }) (v := .pointer (some ⟨gs, 3, none⟩)) rfl (by kernel_rfl) (by kernel_rfl) (by kernel_rfl) (fun _ _ _ h => h) (Or.inl ⟨by rfl, fun wq hSw => by (try dsimp only at hSw); go_simp⟩) (by assumption) ?_
      try simp only [Act.put, List.setIfInBounds_toArray, List.set_cons_zero, List.set_cons_succ]
      refine wpAnyH_take (i := 20) (oi := { dst := some 64, op := Op.load 3 (Operand.tmp 63), type := 3, pos := "law.go:480", after := #[{ on := 19, ground := Ground.data }, { on := 15, ground := Ground.guard }], guard := some (15, true) }) (v := .int .i64 M) rfl (by kernel_rfl) (by kernel_rfl) (by kernel_rfl) (fun _ _ _ h => h) (Or.inl ⟨by rfl, fun wq hSw => by (try dsimp only at hSw); go_simp⟩) (by assumption) ?_
      try simp only [Act.put, List.setIfInBounds_toArray, List.set_cons_zero, List.set_cons_succ]
      refine wpAnyH_take (i := 21) (oi := { dst := some 65, op := Op.binOp BinOp.sub 3 (Operand.tmp 62) (Operand.tmp 64) 3, type := 3, pos := "law.go:480", after := #[{ on := 18, ground := Ground.data }, { on := 20, ground := Ground.data }, { on := 15, ground := Ground.guard }], guard := some (15, true) }) (v := .int .i64 (F - M)) rfl (by kernel_rfl) (by kernel_rfl) (by kernel_rfl) (fun _ _ _ h => h) (Or.inl ⟨by rfl, fun wq hSw => by (try dsimp only at hSw); go_simp⟩) (by assumption) ?_
      try simp only [Act.put, List.setIfInBounds_toArray, List.set_cons_zero, List.set_cons_succ]
      refine wpAnyH_take (i := 22) (oi := { dst := some 66, op := Op.binOp BinOp.eql 3 (Operand.tmp 60) (Operand.tmp 65) 3, type := 4, pos := "law.go:480", after := #[{ on := 16, ground := Ground.data }, { on := 21, ground := Ground.data }, { on := 15, ground := Ground.guard }], guard := some (15, true) }) (v := .bool true) rfl (by kernel_rfl) (by kernel_rfl) (by kernel_rfl) (fun _ _ _ h => h) (Or.inl ⟨by rfl, fun wq hSw => by (try dsimp only at hSw); go_simp⟩) (by assumption) ?_
      try simp only [Act.put, List.setIfInBounds_toArray, List.set_cons_zero, List.set_cons_succ]
      refine wpAnyH_take (i := 23) (oi := { dst := some 67, op := Op.pick (Operand.tmp 59) (Operand.tmp 66) (Operand.const (Value.bool false)), type := 4, pos := "law.go:480", after := #[{ on := 15, ground := Ground.data }, { on := 22, ground := Ground.data }], guard := none }) (v := .bool true) rfl (by kernel_rfl) (by kernel_rfl) (by kernel_rfl) (fun _ _ _ h => h) (Or.inl ⟨by rfl, fun wq hSw => by (try dsimp only at hSw); go_simp⟩) (by assumption) ?_
      try simp only [Act.put, List.setIfInBounds_toArray, List.set_cons_zero, List.set_cons_succ]
      refine wpAnyH_take (i := 24) (oi := { dst := some 2, op := Op.assign (Operand.tmp 67), type := 4, pos := "law.go:480", after := #[{ on := 23, ground := Ground.data }, { on := 15, ground := Ground.chain }, { on := 0, ground := Ground.phase }, { on := 1, ground := Ground.phase }, { on := 2, ground := Ground.phase }, { on := 3, ground := Ground.phase }, { on := 4, ground := Ground.phase }, { on := 5, ground := Ground.phase }, { on := 6, ground := Ground.phase }, { on := 7, ground := Ground.phase }, { on := 8, ground := Ground.phase }, { on := 9, ground := Ground.phase }, { on := 10, ground := Ground.phase }, { on := 11, ground := Ground.phase }, { on := 12, ground := Ground.phase }, { on := 13, ground := Ground.phase }, { on := 14, ground := Ground.phase }, { on := 15, ground := Ground.phase }, { on := 16, ground := Ground.phase }, { on := 17, ground := Ground.phase }, { on := 18, ground := Ground.phase }, { on := 19, ground := Ground.phase }, { on := 20, ground := Ground.phase }, { on := 21, ground := Ground.phase }, { on := 22, ground := Ground.phase }, { on := 23, ground := Ground.phase }], guard := none }) (v := .bool true) rfl (by kernel_rfl) (by kernel_rfl) (by kernel_rfl) (fun _ _ _ h => h) (Or.inl ⟨by rfl, fun wq hSw => by (try dsimp only at hSw); go_simp⟩) (by assumption) ?_
      try simp only [Act.put, List.setIfInBounds_toArray, List.set_cons_zero, List.set_cons_succ]
      refine wpAnyH_done (by kernel_rfl) ?_ _
      have HB9 := hide hb8
      clear hb8 HEND k1 k2 hcv s2 s3
      go_wp2
      go_ret
      exact ⟨rfl, unhide HB9⟩
end Go.Proofs.YtopblhmbjdfebaaGreat
