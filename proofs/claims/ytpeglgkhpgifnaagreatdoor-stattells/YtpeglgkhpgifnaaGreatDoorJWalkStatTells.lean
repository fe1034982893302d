/-
  The walk of StatTells. (Part of the proof of StatTells.)
-/
import Derived.Test.YtpeglgkhpgifnaaGreatDoorJSt
import Derived.Test.YtpeglgkhpgifnaaGreatDoorJHt
import Derived.Deep.CutRange
import Derived.Deep.CutBlock
namespace Go.Proofs.YtpeglgkhpgifnaaGreatDoor
open Go.RowKit Go.Sort
set_option linter.unusedVariables false

/-- The image as a text, and another slice that reads the same, as a text. -/
theorem bytes_txt (p g c B : Nat) (L : List Int) (aw : Option Addr) (cw : Nat) (w : World) (hh : Hp w B p g c L) (hw : Bs w aw cw L) :
    Calls Tryz.prog 15 #[.pointer (some ⟨p, 0, none⟩)] w fun e w' => ∃ a' c', e = .returned (.slice a' L.length c') ∧ (convert 22 9 (.slice a' L.length c')).run Tryz.prog w' = .ok (.string (strOf L)) w' ∧ (convert 22 9 (.slice aw L.length cw)).run Tryz.prog w' = .ok (.string (strOf L)) w' ∧ Below w.heap.size w w' :=
  (hBytes_any p g c B L w hh).mono fun e w' ⟨a', c', he, ho, hb⟩ => ⟨a', c', he, by
    obtain ⟨a2, c2, e2, hbs⟩ := ho.bs hh.byt (by have := hh.len; omega)
    simp only [Value.slice.injEq, true_and] at e2
    obtain ⟨rfl, rfl⟩ := e2
    exact conv_str Tryz.underlying22 Tryz.underlying5 Tryz.underlying9 hbs, conv_str Tryz.underlying22 Tryz.underlying5 Tryz.underlying9 (hw.below hb), hb⟩
set_option maxRecDepth 100000 in
set_option maxHeartbeats 16000000 in
theorem walkStatTells (a : Option Addr) (cap : Nat) (b : List Int) (a1 : Option Addr) (cap1 : Nat) (ns : List Int) (w : World) (hg : ErrT w) (hb : Bs w a cap b) (hs : Is w a1 cap1 ns) :
    Calls Tryz.prog 3 #[.slice a b.length cap, .slice a1 ns.length cap1] w fun e w' => e = .returned (.bool true) ∧ Below w.heap.size w w' := by
  have hbl := hb.2.2.1
  have hsl := hs.2.2.1
  obtain ⟨i1, hi1, hy0, hy1, hy2⟩ := info_parts (show (Tryz.prog.info? 3).map (fun i => (i.zero, i.size, i.bytes)) = some (some (.int .i64 0), 1, 8) by kernel_rfl)
  have HL := hide (loadedO_any a cap b w hb)
  have hL := ldL_fine b
  have hl := hL.len
  have htl := takeL_len (ldL b)
  have hel := entsK_len (ldL b) 40
  obtain ⟨O, U, F, M, R, s⟩ : ∃ O U F M R, Sta (ldL b) O U F M R := ⟨_, _, _, _, _, Sta.of (ldL b)⟩
  obtain ⟨s1, s2, s3, s4, s5, s6, s7, s8, s9, s10⟩ := s.sums hL
  have HST := hide s
  have hch := take_chk hL
  have hst : stT (((ldL b).length : Int) - 288) (takeL (ldL b)) = (O, U, F, M, R) := by unfold stT; rw [if_pos hch, s.o, s.u, s.f, s.m, s.r]
  have HTK := hide (fun (W : World) (q : Option Addr) (cq : Nat) (hbs : Bs W q cq (ldL b)) => sTaken_any q cq (ldL b) W hbs hL)
  have HRS := hide (fun (W : World) (q : Option Addr) (cq : Nat) (hx : Exs W q cq (takeL (ldL b))) => rstat_any (((ldL b).length : Int) - 288) q cq (takeL (ldL b)) W hx hch _ _ _ _ _ hst)
  have HTI := hide (sf_in hL)
  have HEN := hide (fun (W : World) (q : Option Addr) (cq : Nat) (hbs : Bs W q cq (ldL b)) => rEnts_any q cq (ldL b) W hbs hl.1)
  have HIN := hide (ents_in hL)
  have HTG := hide (tags_in hL)
  have HTR : Hid (tgK (entsK (ldL b) 40) = tgL (ldL b)) := hide rfl
  have HTL := hide (tgL_len (ldL b))
  have HBT := hide (fun (W : World) (p g c : Nat) (h : Hp W w.heap.size p g c (ldL b)) => sfTag_any h)
  have hcn := cnN_le ns (ldL b)
  have HSP := hide (fun i n hn hi => cn_spec ns (ldL b) i n hn hi)
  have HTA := hide (fun i n (hn : ns[i]? = some n) => als_take (X := ldL b) hn)
  have HAF := hide (als_fine hL)
  have H0 : Hid (alsL (ldL b) (ns.take 0) = ldL b) := hide rfl
  have HI := hide hs
  have HG := hide hg
  have HCAN := hide (fun (W : World) (p g c : Nat) (h : Hp W w.heap.size p g c (ldL b)) (hi : Is W a1 cap1 ns) => sfCan_any h a1 cap1 ns hi)
  have HLO := hide (fun (W : World) (p g c : Nat) (h : Hp W w.heap.size p g c (ldL b)) => sfLoose_any h s)
  have HHP := hide (fun (W : World) (p g c : Nat) (h : Hp W w.heap.size p g c (ldL b)) => sfHeap_any h s)
  clear hb hs hg hch hst s
  generalize hCN : cnN (ldL b) ns = CN at *
  clear hCN
  generalize tgL (ldL b) = TG at *
  generalize entsK (ldL b) 40 = EN at *
  generalize takeL (ldL b) = TL at *
  generalize ldL b = L at *
  generalize hN : L.length = N at *
  have HN := hide hN
  have hU6 : 0 ≤ U ∧ U ≤ 6400 := by omega
  have hF6 : 0 ≤ F ∧ F ≤ 6400 := by omega
  have hM6 : 0 ≤ M ∧ M ≤ F := by omega
  have HM1 := hide s10
  clear hN s1 s2 s3 s4 s5 s6 s7 s8 s9 s10
  go_enter Tryz.func3, Tryz.ntmps3
  go_wp2_with fail
  refine (unhide HL).mono ?_
  rintro e w1 ⟨p, g, c, am, cm, rfl, hh1, hm1, hb1⟩
  have HTK1 := hide (unhide HTK w1 am cm hm1.1)
  have HH1 := hide hh1
  have HM1' := hide hm1.1
  have HB1 := hide hb1
  clear hh1 hm1 hb1 HL HTK
  go_wp2_with fail
  refine (unhide HTK1).mono ?_
  rintro e w2 ⟨v2, rfl, ho2, hb2⟩
  have ho2' : ExO w2 w1.heap.size v2 TL := ho2
  obtain ⟨a2, c2, rfl, hx2⟩ := ho2'.exs (unhide HTI) (by omega)
  have HS2 := hide (unhide HRS w2 a2 c2 hx2)
  have HH2 := hide ((unhide HH1).below hb2)
  have HM2 := hide ((unhide HM1').below hb2)
  have HB2 := hide ((unhide HB1).trans (hb2.mono (unhide HB1).size))
  clear ho2 ho2' hx2 hb2 HTK1 HRS HH1 HM1' HB1 HTI
  go_wp2_with fail
  refine (unhide HS2).mono ?_
  rintro e w3 ⟨rfl, hb3⟩
  have hba : Below w3.heap.size w3 (w3.alloc (.cells #[.int .i64 O, .int .i64 U, .int .i64 F, .int .i64 M, .int .i64 R] 28)) := (Below.refl _ _).alloc (Nat.le_refl _) _
  have hh4 := ((unhide HH2).below hb3).below hba
  have HH4 := hide hh4
  have HM4 := hide (((unhide HM2).below hb3).below hba)
  have hB3 := (unhide HB2).trans (hb3.mono (unhide HB2).size)
  have HB4 := hide (hB3.trans (hba.mono hB3.size))
  have HSB4 := hide (StB.new w3 O U F M R)
  have HC4 := hide (unhide HHP _ p g c hh4)
  generalize hw4 : w3.alloc (.cells #[.int .i64 O, .int .i64 U, .int .i64 F, .int .i64 M, .int .i64 R] 28) = w4 at *
  have HW4 := hide hw4
  clear hb3 hba hh4 hB3 HS2 HH2 HM2 HB2 HHP hw4
  go_wp2_with fail
  try rw [unhide HW4]
  refine (unhide HC4).mono ?_
  rintro e w5 ⟨rfl, hb5⟩
  generalize w3.heap.size = g1 at *
  have hba : Below w5.heap.size w5 (w5.alloc (.cells #[.int .i64 O, .int .i64 U, .int .i64 F, .int .i64 M, .int .i64 R] 28)) := (Below.refl _ _).alloc (Nat.le_refl _) _
  have hB5 := (unhide HB4).trans (hb5.mono (unhide HB4).size)
  have hs5 := (unhide HSB4).below hb5 (unhide HSB4).lt
  have HT : Hid (TtS w (w5.alloc (.cells #[.int .i64 O, .int .i64 U, .int .i64 F, .int .i64 M, .int .i64 R] 28)) p g c am cm L g1 w5.heap.size O U F M R) := hide ⟨((unhide HH4).below hb5).below hba, ((unhide HM4).below hb5).below hba, hB5.trans (hba.mono hB5.size), hs5.below hba hs5.lt, StB.new w5 O U F M R⟩
  clear hb5 hba hB5 hs5 HC4 HH4 HM4 HB4 HSB4 HW4
  go_upto_region 6 with fail
  generalize w5.alloc (.cells #[.int .i64 O, .int .i64 U, .int .i64 F, .int .i64 M, .int .i64 R] 28) = w6 at *
  generalize w5.heap.size = g2 at *
  go_upto_if 47 with fail
  go_cut [10] from 45 to 47 (fun ev wx => ev = .int .i64 (cnK ns 0) ∧ wx = w6)
  case first =>
    have HK0 := hide (cnK_zero ns)
    by_cases h200 : 200 < ns.length
    · have f1 : (200 : Int) < (ns.length : Int) := by omega
      go_wp2
      go_meet
      case rel => exact ⟨by rw [unhide HK0, if_pos h200], rfl⟩
    · have f1 : ¬ (200 : Int) < (ns.length : Int) := by omega
      go_wp2
      go_meet
      case rel => exact ⟨by rw [unhide HK0, if_neg h200], rfl⟩
  obtain ⟨rfl, hwx⟩ := hcut
  replace hwx := hwx.symm
  subst hwx
  generalize hK0 : cnK ns 0 = K0 at *
  have HK0 := hide hK0
  clear hK0
  go_upto_region 9 with fail
  go_cut [11] from 48 to 48 (fun v wx => v = .int .i64 0 ∧ wx = w6)
  case first =>
    go_wp2
    go_meet
    case rel => exact ⟨rfl, rfl⟩
  obtain ⟨rfl, hwx⟩ := hcut
  replace hwx := hwx.symm
  subst hwx
  refine (‹∀ (a : Act) (w : World), Code.wp Tryz.prog (Code.block _ _) _ a w → _›) _ _ ?_
  go_cut [10, 11] from 48 to 69 (fun ev _ wx => ev = .int .i64 (cnE ns) ∧ wx = w6)
  case first =>
    have HIS := hide ((unhide HI).below (unhide HT).bel)
    have HKE := hide (fun k h => cnK_end (ns := ns) (k := k) h)
    have HKN := hide (fun k z hz h => cnK_next (ns := ns) (k := k) (z := z) hz h)
    clear HT HI HSP HTA HAF H0 HCAN HLO HBT HEN HIN HTG HTR HTL HST HG HM1
    go_wp2_with fail
    go_loopw [10, 11] (fun ev iv wr => ∃ k : Nat, k ≤ ns.length ∧ ev = .int .i64 (cnK ns k) ∧ iv = .int .i64 k ∧ w6 = wr) (fun _ iv _ => ns.length - (intOf iv).toNat)
    case atStart => exact ⟨0, Nat.zero_le _, by rw [unhide HK0], rfl, rfl⟩
    case round =>
      obtain ⟨k, hk, rfl, rfl, rfl⟩ := hrel
      by_cases hlt : k < ns.length
      · have f1 : (k : Int) < (ns.length : Int) := by omega
        by_cases h0 : cnK ns k = 0
        · rw [h0]
          obtain ⟨z, hz⟩ : ∃ z, ns[k]? = some z := ⟨ns[k], List.getElem?_eq_getElem hlt⟩
          obtain ⟨b1, o1, rfl, q0⟩ := (unhide HIS).cellAt hz
          have HNX := hide (unhide HKN k z hz h0)
          clear hz h0 HKE HKN
          by_cases h1 : z < 1
          · have e : noSz z = true := decide_eq_true (.inl h1)
            rw [if_pos e] at HNX
            clear e
            go_wp2
            go_roundw
            case rel => exact ⟨k + 1, by omega, by rw [unhide HNX], by go_num, trivial⟩
            case measure => simp [intOf]; omega
          · by_cases h2 : 1000 < z
            · have e : noSz z = true := decide_eq_true (.inr h2)
              rw [if_pos e] at HNX
              clear e
              go_wp2
              go_roundw
              case rel => exact ⟨k + 1, by omega, by rw [unhide HNX], by go_num, trivial⟩
              case measure => simp [intOf]; omega
            · have e : noSz z = false := decide_eq_false (by omega)
              rw [e, if_neg (by simp)] at HNX
              clear e
              go_wp2
              go_roundw
              case rel => exact ⟨k + 1, by omega, by rw [unhide HNX], by go_num, trivial⟩
              case measure => simp [intOf]; omega
        · have HE := hide (unhide HKE k (.inr h0))
          generalize cnK ns k = CK at *
          have h0' : (CK == 0) = false := by rw [beq_eq_false_iff_ne]; exact h0
          go_wp2
          go_meet
          case rel => exact ⟨by rw [unhide HE], rfl⟩
      · have f1 : ¬ (k : Int) < (ns.length : Int) := by omega
        have HE := hide (unhide HKE k (.inl (by omega)))
        generalize cnK ns k = CK at *
        go_wp2
        go_meet
        case rel => exact ⟨by rw [unhide HE], rfl⟩
  obtain ⟨rfl, hwx⟩ := hcut
  replace hwx := hwx.symm
  subst hwx
  clear HK0
  generalize hCE : cnE ns = CE at *
  have HCE := hide hCE
  clear hCE
  go_upto_block 2 with fail
  go_cut [12, 13, 14, 15, 16] from 71 to 93 (fun mv _ _ _ _ wx => mv = .int .i64 (if CE = 0 then (CN : Int) else 0) ∧ TtS w wx p g c am cm L g1 g2 O U F M R)
  case first =>
    have HSA := hide (fun (W : World) (q : Option Addr) (cq : Nat) (X : List Int) (z : Int) (hx : Bs W q cq X) (hf : Fine X) => sAlloc_any q cq X z 0 W hx hf)
    clear HCAN HLO HBT HEN HIN HTG HTR HTL HST HG HM1
    by_cases h0 : CE = 0
    · subst h0
      go_wp2_with fail
      go_loopw [12, 13] (fun mv xv wr => ∃ (k : Nat) (q : Option Addr) (cq : Nat), k ≤ CN ∧ mv = .int .i64 k ∧ xv = .slice q N cq ∧ Bs wr q cq (alsL L (ns.take k)) ∧ TtS w wr p g c am cm L g1 g2 O U F M R) (fun mv _ _ => ns.length - (intOf mv).toNat)
      case atStart => exact ⟨0, am, cm, Nat.zero_le _, rfl, rfl, by rw [unhide H0]; exact (unhide HT).bs, unhide HT⟩
      case round =>
        obtain ⟨k, q, cq, hk, rfl, rfl, hx, ht⟩ := hrel
        clear HT
        by_cases hlt : k < ns.length
        · have f1 : (k : Int) < (ns.length : Int) := by omega
          obtain ⟨z, hz⟩ : ∃ z, ns[k]? = some z := ⟨ns[k], List.getElem?_eq_getElem hlt⟩
          obtain ⟨b1, o1, rfl, q0⟩ := ((unhide HI).below ht.bel).cellAt hz
          have HSPk := hide (unhide HSP k z hz hk)
          have HTKk := hide (unhide HTA k z hz)
          obtain ⟨x1, x2⟩ := unhide HAF (ns.take k)
          have hsa := unhide HSA wr q cq (alsL L (ns.take k)) z hx x1
          rw [x2] at hsa
          have hlen2 := (unhide HAF (ns.take (k + 1))).2
          rw [unhide HTKk] at hlen2
          have HL2 := hide hlen2
          have HTT := hide ht
          clear hz hx ht x1 x2 hlen2 HSP HTA HAF
          generalize alsL L (ns.take k) = X0 at *
          by_cases hq : alE X0 z 0 = 0
          · have hkc := (unhide HSPk).1 hq
            rw [hq, if_pos rfl, unhide HL2] at hsa
            have HC := hide hsa
            clear hsa hq
            go_wp2_with fail
            refine (unhide HC).mono ?_
            rintro e w7 ⟨a7, c7, rfl, hx7, hb7, _⟩
            rw [← unhide HTKk] at hx7
            have HX7 := hide hx7
            have HT7 := hide ((unhide HTT).below hb7)
            clear hx7 hb7 HC HTT
            go_wp2
            go_roundw
            case rel => exact ⟨k + 1, a7, c7, by omega, by go_num, rfl, unhide HX7, unhide HT7⟩
            case measure => simp [intOf]; omega
          · have HKC : Hid (k = CN) := hide (by
              have h1 := mt (unhide HSPk).2 hq
              omega)
            rw [if_neg hq] at hsa
            have HC := hide hsa
            generalize alE X0 z 0 = AE at *
            have hq' : (AE != 0) = true := by simp [hq]
            clear hsa
            go_wp2_with fail
            refine (unhide HC).mono ?_
            rintro e w7 ⟨a7, c7, rfl, hx7, hb7, _⟩
            have HT7 := hide ((unhide HTT).below hb7)
            clear hx7 hb7 HC HTT
            go_wp2
            go_meet
            case rel => exact ⟨by simp [unhide HKC], unhide HT7⟩
        · have HKC : Hid (k = CN) := hide (by omega)
          have f1 : ¬ (k : Int) < (ns.length : Int) := by omega
          have HTT := hide ht
          clear hx ht
          go_wp2
          go_meet
          case rel => exact ⟨by simp [unhide HKC], unhide HTT⟩
    · have h0' : (CE == 0) = false := by rw [beq_eq_false_iff_ne]; exact h0
      go_wp2_with fail
      go_loopw [12, 13] (fun mv xv wr => mv = .int .i64 0 ∧ xv = .slice am N cm ∧ w6 = wr) (fun mv _ _ => ns.length - (intOf mv).toNat)
      case atStart => exact ⟨rfl, rfl, rfl⟩
      case round =>
        obtain ⟨rfl, rfl, rfl⟩ := hrel
        by_cases hlt : 0 < ns.length
        · have f1 : (0 : Int) < (ns.length : Int) := by omega
          go_wp2
          go_meet
          case rel => exact ⟨by simp [h0], unhide HT⟩
        · have f1 : ¬ (0 : Int) < (ns.length : Int) := by omega
          go_wp2
          go_meet
          case rel => exact ⟨by simp [h0], unhide HT⟩
  obtain ⟨rfl, ht7⟩ := hcut
  have hcan := unhide HCAN wc p g c ht7.hp ((unhide HI).below ht7.bel)
  have HCA := hide hcan
  have HT7 := hide ht7
  clear hcan ht7 HCAN HT HSP HTA HAF H0 HI
  generalize (if CE = 0 then (CN : Int) else 0) = MN at *
  go_wp2_with fail
  refine (unhide HCA).mono ?_
  rintro e w8 ⟨rfl, hb8⟩
  have ht8 := (unhide HT7).below hb8
  have HES := hide (error_same CE w8 ((unhide HG).below ht8.bel))
  have HT8 := hide ht8
  clear hb8 ht8 HCA HT7
  go_wp2_with fail
  refine (unhide HES).mono ?_
  rintro e w9 ⟨rfl, hb9⟩
  have ht9 := (unhide HT8).below hb9
  obtain ⟨c0, c1, c2, c3, c4⟩ := ht9.s1.cells
  have HT9 := hide ht9
  have HC9 := hide (unhide HLO w9 p g c ht9.hp)
  clear hb9 ht9 HES HT8 HLO HG
  go_upto_if 105 with fail
  go_cut [20] from 103 to 114 (fun v wx => v = .int .i64 (lsN F M) ∧ wx = w9)
  case first =>
    by_cases hF : 0 < F
    · obtain ⟨d1, d2⟩ := ls_div hM6.1 hM6.2 (by omega) (by omega) (unhide HM1 hF)
      have hF' : (F == 0) = false := by rw [beq_eq_false_iff_ne]; omega
      clear HT9 HC9 HBT HEN HIN HTG HTR HTL HST HM1
      go_wp2
      go_meet
      case rel => exact ⟨rfl, rfl⟩
    · have HZ : Hid (lsN F M = 0) := hide (by unfold lsN; rw [if_pos (by omega)])
      clear HT9 HC9 HBT HEN HIN HTG HTR HTL HST HM1
      go_wp2
      go_meet
      case rel => exact ⟨by rw [unhide HZ], rfl⟩
  obtain ⟨rfl, hwx⟩ := hcut
  replace hwx := hwx.symm
  subst hwx
  generalize lsN F M = LS at *
  clear c0 c1 c2 c3 c4
  go_wp2_with fail
  refine (unhide HC9).mono ?_
  rintro e w10 ⟨rfl, hb10⟩
  have HT10 := hide ((unhide HT9).below hb10)
  clear hb10 HC9 HT9
  go_wp2_with (at_make; refine wpList_make_int rfl _ _ 23 rfl i1 Tryz.underlying23 hi1 hy0 hy1 hy2 _ _ _ _ 16 rfl rfl rfl rfl (by omega) ?_; intro w11 hk11 hs11 hb11)
  have ht11 := (unhide HT10).below hb11
  have HK11 := hide hk11
  have HB11 := hide hb11
  have HT11 := hide ht11
  have hlt11 : w10.heap.size < w11.heap.size := by omega
  have HC11 := hide (unhide HEN w11 am cm ht11.bs)
  clear hk11 hs11 hb11 ht11 HEN
  generalize hq : w10.heap.size = q at *
  have HQ := hide hq
  clear hq
  go_wp2_with fail
  try rw [unhide HQ]
  refine (unhide HC11).mono ?_
  rintro e w12 ⟨v12, rfl, ho12, hb12⟩
  have hblk := ho12.block
  obtain ⟨a3, c3, rfl, hs3⟩ := ho12.sls enC_len (by omega)
  have HNB : Hid (∀ x, a3 = some x → EN ≠ [] → ¬ (fun k => k = q) x.block) := hide (fun x hx hne he => by
    subst hx
    obtain ⟨b, off, e, _⟩ := hs3.2.2.2 hne
    cases e
    have := hblk b (by simp [Value.ownBlock])
    dsimp only at he
    omega)
  have hcap := hs3.2.2.1
  have HS12 := hide hs3
  have HK12 := hide ((unhide HK11).below hb12)
  have HB12 := hide ((unhide HB11).trans (hb12.mono (by omega)))
  have hlt12 : q < w12.heap.size := Nat.lt_of_lt_of_le hlt11 hb12.size
  clear ho12 hs3 hb12 hblk HC11 HK11 HT11
  go_wp2_with fail
  go_loopw [25] (fun iv wr => ∃ k : Nat, k ≤ EN.length ∧ iv = .int .i64 k ∧ WtB wr q (tgK (EN.take k)) ∧ Turn (fun k => k = q) (fun k => k = q) w12 wr) (fun iv _ => EN.length - (intOf iv).toNat)
  case atStart => exact ⟨0, Nat.zero_le _, rfl, unhide HK12, Turn.refl _ _⟩
  case round =>
    obtain ⟨k, hk, rfl, hwt, htn⟩ := hrel
    by_cases hlt : k < EN.length
    · have hne : EN ≠ [] := by intro e; rw [e] at hlt; simp at hlt
      obtain ⟨b1, o1, rfl, hc1⟩ := ((unhide HS12).turnN enC_len (by decide) htn (unhide HNB)).2.2.2 hne
      obtain ⟨f, hf⟩ : ∃ f, EN[k]? = some f := ⟨EN[k], List.getElem?_eq_getElem hlt⟩
      obtain ⟨q0, q1, q2, q3⟩ := Sls.ent (cap := 0) hc1 hf
      have hbq : b1 ≠ q := fun e => unhide HNB _ rfl hne e
      have HTT := hide (tgK_take hf)
      have hfi := unhide HIN f (List.mem_of_getElem? hf)
      have hft := unhide HTG f (List.mem_of_getElem? hf)
      have hbd := tgK_bd (E := EN.take k) (by simp; omega) (fun e he => by have := unhide HIN e (List.mem_of_mem_take he); omega)
      have htl2 := tgK_len (EN.take k)
      obtain ⟨x, y, z, t⟩ := f
      dsimp only at *
      obtain ⟨t, rfl⟩ := Int.eq_ofNat_of_zero_le hft.1
      have ht16 : t < 16 := by omega
      have hcl := hwt.cell (i := t) (by omega)
      have hfr := hwt.fr t
      have hgd : 0 ≤ (tgK (EN.take k)).getD t 0 ∧ (tgK (EN.take k)).getD t 0 ≤ 2621400 := by
        rw [show (tgK (EN.take k)).getD t 0 = (tgK (EN.take k))[t]'(by omega) by simp [List.getD, htl2, ht16]]
        exact hbd _ (List.getElem_mem _)
      have HNX : Hid (tgK (EN.take (k + 1)) = (tgK (EN.take k)).set t ((tgK (EN.take k)).getD t 0 + z)) := hide (by rw [unhide HTT]; unfold tgS; rfl)
      have HWT := hide hwt
      have HTN := hide htn
      have hqlt := hwt.lt
      have hkl : (k : Int) < (EN.length : Int) := by omega
      clear hc1 hf hne hwt htn hbd htl2 HTT
      generalize (tgK (EN.take k)).getD t 0 = Z at *
      have ht16' : (t : Int) < 16 := by omega
      have ht0' : (0 : Int) ≤ (t : Int) := by omega
      have hzz : ¬ (9223372036854775807 : Int) < Z + z := by omega
      go_wp2_with fail
      go_region
      have HW2 : Hid (WtB ((wr.setCell ⟨q, t, none⟩ (.int .i64 (Z + z))).drew) q (tgK (EN.take (k + 1)))) := hide (by rw [unhide HNX]; exact (unhide HWT).set t (Z + z))
      have HT2 : Hid (Turn (fun k => k = q) (fun k => k = q) w12 ((wr.setCell ⟨q, t, none⟩ (.int .i64 (Z + z))).drew)) := hide (((unhide HTN).trans (Turn.setCell (S := fun k => k = q) wr (a := ⟨q, t, none⟩) (.int .i64 (Z + z)) rfl)).trans (Turn.drew _ _))
      clear HWT HTN hcl hfr q0 q1 q2 q3
      go_wp2
      go_roundw
      case rel => exact ⟨k + 1, by omega, by go_num, unhide HW2, unhide HT2⟩
      case measure => simp [intOf]; omega
    · obtain rfl : k = EN.length := by omega
      rw [List.take_length, unhide HTR] at hwt
      have hbel : Below q w10 wr := (unhide HB12).trans (htn.below (fun k hk => by omega) (by omega))
      have ht13 : TtS w wr p g c am cm L g1 g2 O U F M R := (unhide HT10).below (by have := unhide HQ; subst this; exact hbel)
      have HT13 := hide ht13
      have HW13 := hide hwt
      have HC13 := hide (unhide HBT wr p g c ht13.hp)
      have htg16 := unhide HTL
      clear hwt htn hbel ht13 HB12 HT10 HK12 HS12 HNB HIN HTG HTR HBT HTL HQ
      go_wp2_with fail
      refine (unhide HC13).mono ?_
      rintro e w14 ⟨q2, rfl, _, hq2, hb14⟩
      have ht14 := (unhide HT13).below hb14
      have hin := insame_any (some ⟨q2, 0, none⟩) (some ⟨q, 0, none⟩) TG.length TG.length TG w14 (hq2.slsN (by omega)) (((unhide HW13).below hb14).slsN (by omega))
      rw [htg16] at hin
      have HIS := hide hin
      have HT14 := hide ht14
      clear hq2 hb14 ht14 hin HC13 HT13 HW13
      go_wp2_with fail
      refine (unhide HIS).mono ?_
      rintro e w15 ⟨rfl, hb15⟩
      have ht15 := (unhide HT14).below hb15
      have hbd : Below w15.heap.size w15 w15.drew := below_drew (Below.refl _ _)
      have ht16 := ht15.below hbd
      have hcv := conv_str (P := Tryz.prog) (t := 22) (e := 9) Tryz.underlying22 Tryz.underlying5 Tryz.underlying9 ht16.bs
      obtain ⟨x0, x1, x2, x3, x4⟩ := ht16.s1.cells
      obtain ⟨y0, y1, y2, y3, y4⟩ := ht16.s2.cells
      have HEND : Hid (Calls Tryz.prog 15 #[.pointer (some ⟨p, 0, none⟩)] w15.drew fun e w8 => ∃ a8 c8, e = .returned (.slice a8 N c8) ∧ (convert 22 9 (.slice a8 N c8)).run Tryz.prog w8 = .ok (.string (strOf L)) w8 ∧ (convert 22 9 (.slice am N cm)).run Tryz.prog w8 = .ok (.string (strOf L)) w8 ∧ ((w8.cell? ⟨g1, 0, none⟩ = some (.int .i64 O) ∧ w8.cell? ⟨g1, 1, none⟩ = some (.int .i64 U) ∧ w8.cell? ⟨g1, 2, none⟩ = some (.int .i64 F) ∧ w8.cell? ⟨g1, 3, none⟩ = some (.int .i64 M) ∧ w8.cell? ⟨g1, 4, none⟩ = some (.int .i64 R)) ∧ w8.cell? ⟨g2, 0, none⟩ = some (.int .i64 O) ∧ w8.cell? ⟨g2, 1, none⟩ = some (.int .i64 U) ∧ w8.cell? ⟨g2, 2, none⟩ = some (.int .i64 F) ∧ w8.cell? ⟨g2, 3, none⟩ = some (.int .i64 M) ∧ w8.cell? ⟨g2, 4, none⟩ = some (.int .i64 R)) ∧ Below w.heap.size w w8) := hide (by
        have := bytes_txt p g c w.heap.size L am cm w15.drew ht16.hp ht16.bs
        rw [unhide HN] at this
        refine this.mono ?_
        rintro e w8 ⟨a8, c8, rfl, k1, k2, hb8⟩
        have ht8 := ht16.below hb8
        exact ⟨a8, c8, rfl, k1, k2, ⟨ht8.s1.cells, ht8.s2.cells⟩, ht8.bel⟩)
      rw [unhide HN] at hcv
      clear hb15 ht15 ht16 HIS HT14 hbd
      generalize strOf L = SX at *
      go_wp2_with fail
      refine wp_region_held_drew (S := fun wq => (convert 22 9 (.slice am N cm)).run Tryz.prog wq = .ok (.string SX) wq ∧ ((wq.cell? ⟨g1, 0, none⟩ = some (.int .i64 O) ∧ wq.cell? ⟨g1, 1, none⟩ = some (.int .i64 U) ∧ wq.cell? ⟨g1, 2, none⟩ = some (.int .i64 F) ∧ wq.cell? ⟨g1, 3, none⟩ = some (.int .i64 M) ∧ wq.cell? ⟨g1, 4, none⟩ = some (.int .i64 R)) ∧ wq.cell? ⟨g2, 0, none⟩ = some (.int .i64 O) ∧ wq.cell? ⟨g2, 1, none⟩ = some (.int .i64 U) ∧ wq.cell? ⟨g2, 2, none⟩ = some (.int .i64 F) ∧ wq.cell? ⟨g2, 3, none⟩ = some (.int .i64 M) ∧ wq.cell? ⟨g2, 4, none⟩ = some (.int .i64 R))) (by kernel_rfl) ⟨hcv, ⟨x0, x1, x2, x3, x4⟩, y0, y1, y2, y3, y4⟩ (fun hHeld => ?_)
      refine wpAnyH_take (i := 0) (oi := { dst := some 155, op := Op.move (Operand.tmp 9), type := 33, pos := "law.go:629", after := #[], guard := none }) (v := .nilIface) rfl (by kernel_rfl) (by kernel_rfl) (by kernel_rfl) (fun _ _ _ h => h) (Or.inl ⟨by rfl, fun wq hSw => by (try dsimp only at hSw); go_simp⟩) (by assumption) ?_
      try simp only [Act.put, List.setIfInBounds_toArray, List.set_cons_zero, List.set_cons_succ]
      refine wpAnyH_take (i := 1) (oi := { dst := some 156, op := Op.binOp BinOp.eql 33 (Operand.tmp 155) (Operand.const Value.nilIface) 33, type := 4, pos := "law.go:629", after := #[{ on := 0, ground := Ground.data }], guard := none }) (v := .bool true) rfl (by kernel_rfl) (by kernel_rfl) (by kernel_rfl) (fun _ _ _ h => h) (Or.inl ⟨by rfl, fun wq hSw => by (try dsimp only at hSw); go_simp⟩) (by assumption) ?_
      try simp only [Act.put, List.setIfInBounds_toArray, List.set_cons_zero, List.set_cons_succ]
      refine wpAnyH_take (i := 2) (oi := { dst := some 157, op := Op.move (Operand.tmp 156), type := 4, pos := "law.go:629", after := #[{ on := 1, ground := Ground.data }], guard := none }) (v := .bool true) rfl (by kernel_rfl) (by kernel_rfl) (by kernel_rfl) (fun _ _ _ h => h) (Or.inl ⟨by rfl, fun wq hSw => by (try dsimp only at hSw); go_simp⟩) (by assumption) ?_
      try simp only [Act.put, List.setIfInBounds_toArray, List.set_cons_zero, List.set_cons_succ]
      refine wpAnyH_take (i := 3) (oi := { dst := some 158, op := Op.load 28 (Operand.tmp 8), type := 28, pos := "law.go:629", after := #[{ on := 2, ground := Ground.guard }], guard := some (2, true) }) (v := .agg #[.int .i64 O, .int .i64 U, .int .i64 F, .int .i64 M, .int .i64 R]) rfl (by kernel_rfl) (by kernel_rfl) (by kernel_rfl) (fun _ _ _ h => h) (Or.inl ⟨by rfl, fun wq hSw => by (try dsimp only at hSw); go_simp⟩) (by assumption) ?_
      try simp only [Act.put, List.setIfInBounds_toArray, List.set_cons_zero, List.set_cons_succ]
      refine wpAnyH_take (i := 4) (oi := { dst := some 159, op := Op.load 28 (Operand.tmp 7), type := 28, pos := "law.go:629", after := #[{ on := 2, ground := Ground.guard }], guard := some (2, true) }) (v := .agg #[.int .i64 O, .int .i64 U, .int .i64 F, .int .i64 M, .int .i64 R]) rfl (by kernel_rfl) (by kernel_rfl) (by kernel_rfl) (fun _ _ _ h => h) (Or.inl ⟨by rfl, fun wq hSw => by (try dsimp only at hSw); go_simp⟩) (by assumption) ?_
      try simp only [Act.put, List.setIfInBounds_toArray, List.set_cons_zero, List.set_cons_succ]
      refine wpAnyH_take (i := 5) (oi := { dst := some 160, op := Op.binOp BinOp.eql 28 (Operand.tmp 158) (Operand.tmp 159) 28, type := 4, pos := "law.go:629", after := #[{ on := 3, ground := Ground.data }, { on := 4, ground := Ground.data }, { on := 2, ground := Ground.guard }], guard := some (2, true) }) (v := .bool true) rfl (by kernel_rfl) (by kernel_rfl) (by kernel_rfl) (fun _ _ _ h => h) (Or.inl ⟨by rfl, fun wq hSw => by (try dsimp only at hSw); go_simp⟩) (by assumption) ?_
      try simp only [Act.put, List.setIfInBounds_toArray, List.set_cons_zero, List.set_cons_succ]
      refine wpAnyH_take (i := 6) (oi := { dst := some 161, op := Op.pick (Operand.tmp 157) (Operand.tmp 160) (Operand.const (Value.bool false)), type := 4, pos := "law.go:629", after := #[{ on := 2, ground := Ground.data }, { on := 5, ground := Ground.data }], guard := none }) (v := .bool true) rfl (by kernel_rfl) (by kernel_rfl) (by kernel_rfl) (fun _ _ _ h => h) (Or.inl ⟨by rfl, fun wq hSw => by (try dsimp only at hSw); go_simp⟩) (by assumption) ?_
      try simp only [Act.put, List.setIfInBounds_toArray, List.set_cons_zero, List.set_cons_succ]
      refine wpAnyH_take (i := 7) (oi := { dst := some 162, op := Op.move (Operand.tmp 161), type := 4, pos := "law.go:629", after := #[{ on := 6, ground := Ground.data }, { on := 2, ground := Ground.chain }], guard := none }) (v := .bool true) rfl (by kernel_rfl) (by kernel_rfl) (by kernel_rfl) (fun _ _ _ h => h) (Or.inl ⟨by rfl, fun wq hSw => by (try dsimp only at hSw); go_simp⟩) (by assumption) ?_
      try simp only [Act.put, List.setIfInBounds_toArray, List.set_cons_zero, List.set_cons_succ]
      refine wpAnyH_take (i := 8) (oi := { dst := some 163, op := Op.move (Operand.tmp 19), type := 4, pos := "law.go:629", after := #[{ on := 7, ground := Ground.guard }], guard := some (7, true) }) (v := .bool true) rfl (by kernel_rfl) (by kernel_rfl) (by kernel_rfl) (fun _ _ _ h => h) (Or.inl ⟨by rfl, fun wq hSw => by (try dsimp only at hSw); go_simp⟩) (by assumption) ?_
      try simp only [Act.put, List.setIfInBounds_toArray, List.set_cons_zero, List.set_cons_succ]
      refine wpAnyH_take (i := 9) (oi := { dst := some 164, op := Op.pick (Operand.tmp 162) (Operand.tmp 163) (Operand.const (Value.bool false)), type := 4, pos := "law.go:629", after := #[{ on := 7, ground := Ground.data }, { on := 8, ground := Ground.data }], guard := none }) (v := .bool true) rfl (by kernel_rfl) (by kernel_rfl) (by kernel_rfl) (fun _ _ _ h => h) (Or.inl ⟨by rfl, fun wq hSw => by (try dsimp only at hSw); go_simp⟩) (by assumption) ?_
      try simp only [Act.put, List.setIfInBounds_toArray, List.set_cons_zero, List.set_cons_succ]
      refine wpAnyH_take (i := 10) (oi := { dst := some 165, op := Op.move (Operand.tmp 164), type := 4, pos := "law.go:629", after := #[{ on := 9, ground := Ground.data }, { on := 7, ground := Ground.chain }], guard := none }) (v := .bool true) rfl (by kernel_rfl) (by kernel_rfl) (by kernel_rfl) (fun _ _ _ h => h) (Or.inl ⟨by rfl, fun wq hSw => by (try dsimp only at hSw); go_simp⟩) (by assumption) ?_
      try simp only [Act.put, List.setIfInBounds_toArray, List.set_cons_zero, List.set_cons_succ]
      refine wpAnyH_take (i := 11) (oi := { dst := some 166, op := Op.move (Operand.tmp 17), type := 3, pos := "law.go:629", after := #[{ on := 10, ground := Ground.guard }], guard := some (10, true) }) (v := .int .i64 MN) rfl (by kernel_rfl) (by kernel_rfl) (by kernel_rfl) (fun _ _ _ h => h) (Or.inl ⟨by rfl, fun wq hSw => by (try dsimp only at hSw); go_simp⟩) (by assumption) ?_
      try simp only [Act.put, List.setIfInBounds_toArray, List.set_cons_zero, List.set_cons_succ]
      refine wpAnyH_take (i := 12) (oi := { dst := some 167, op := Op.move (Operand.tmp 12), type := 3, pos := "law.go:629", after := #[{ on := 10, ground := Ground.guard }], guard := some (10, true) }) (v := .int .i64 MN) rfl (by kernel_rfl) (by kernel_rfl) (by kernel_rfl) (fun _ _ _ h => h) (Or.inl ⟨by rfl, fun wq hSw => by (try dsimp only at hSw); go_simp⟩) (by assumption) ?_
      try simp only [Act.put, List.setIfInBounds_toArray, List.set_cons_zero, List.set_cons_succ]
      refine wpAnyH_take (i := 13) (oi := { dst := some 168, op := Op.binOp BinOp.eql 3 (Operand.tmp 166) (Operand.tmp 167) 3, type := 4, pos := "law.go:629", after := #[{ on := 11, ground := Ground.data }, { on := 12, ground := Ground.data }, { on := 10, ground := Ground.guard }], guard := some (10, true) }) (v := .bool true) rfl (by kernel_rfl) (by kernel_rfl) (by kernel_rfl) (fun _ _ _ h => h) (Or.inl ⟨by rfl, fun wq hSw => by (try dsimp only at hSw); go_simp⟩) (by assumption) ?_
      try simp only [Act.put, List.setIfInBounds_toArray, List.set_cons_zero, List.set_cons_succ]
      refine wpAnyH_take (i := 14) (oi := { dst := some 169, op := Op.pick (Operand.tmp 165) (Operand.tmp 168) (Operand.const (Value.bool false)), type := 4, pos := "law.go:629", after := #[{ on := 10, ground := Ground.data }, { on := 13, ground := Ground.data }], guard := none }) (v := .bool true) rfl (by kernel_rfl) (by kernel_rfl) (by kernel_rfl) (fun _ _ _ h => h) (Or.inl ⟨by rfl, fun wq hSw => by (try dsimp only at hSw); go_simp⟩) (by assumption) ?_
      try simp only [Act.put, List.setIfInBounds_toArray, List.set_cons_zero, List.set_cons_succ]
      refine wpAnyH_take (i := 15) (oi := { dst := some 170, op := Op.move (Operand.tmp 169), type := 4, pos := "law.go:629", after := #[{ on := 14, ground := Ground.data }, { on := 10, ground := Ground.chain }], guard := none }) (v := .bool true) rfl (by kernel_rfl) (by kernel_rfl) (by kernel_rfl) (fun _ _ _ h => h) (Or.inl ⟨by rfl, fun wq hSw => by (try dsimp only at hSw); go_simp⟩) (by assumption) ?_
      try simp only [Act.put, List.setIfInBounds_toArray, List.set_cons_zero, List.set_cons_succ]
      refine wpAnyH_take (i := 16) (oi := { dst := some 171, op := Op.move (Operand.tmp 22), type := 33, pos := "law.go:629", after := #[{ on := 15, ground := Ground.guard }], guard := some (15, true) }) (v := .nilIface) rfl (by kernel_rfl) (by kernel_rfl) (by kernel_rfl) (fun _ _ _ h => h) (Or.inl ⟨by rfl, fun wq hSw => by (try dsimp only at hSw); go_simp⟩) (by assumption) ?_
      try simp only [Act.put, List.setIfInBounds_toArray, List.set_cons_zero, List.set_cons_succ]
      refine wpAnyH_take (i := 17) (oi := { dst := some 172, op := Op.binOp BinOp.eql 33 (Operand.tmp 171) (Operand.const Value.nilIface) 33, type := 4, pos := "law.go:629", after := #[{ on := 16, ground := Ground.data }, { on := 15, ground := Ground.guard }], guard := some (15, true) }) (v := .bool true) rfl (by kernel_rfl) (by kernel_rfl) (by kernel_rfl) (fun _ _ _ h => h) (Or.inl ⟨by rfl, fun wq hSw => by (try dsimp only at hSw); go_simp⟩) (by assumption) ?_
      try simp only [Act.put, List.setIfInBounds_toArray, List.set_cons_zero, List.set_cons_succ]
      refine wpAnyH_take (i := 18) (oi := { dst := some 173, op := Op.pick (Operand.tmp 170) (Operand.tmp 172) (Operand.const (Value.bool false)), type := 4, pos := "law.go:629", after := #[{ on := 15, ground := Ground.data }, { on := 17, ground := Ground.data }], guard := none }) (v := .bool true) rfl (by kernel_rfl) (by kernel_rfl) (by kernel_rfl) (fun _ _ _ h => h) (Or.inl ⟨by rfl, fun wq hSw => by (try dsimp only at hSw); go_simp⟩) (by assumption) ?_
      try simp only [Act.put, List.setIfInBounds_toArray, List.set_cons_zero, List.set_cons_succ]
      refine wpAnyH_take (i := 19) (oi := { dst := some 174, op := Op.move (Operand.tmp 173), type := 4, pos := "law.go:629", after := #[{ on := 18, ground := Ground.data }, { on := 15, ground := Ground.chain }], guard := none }) (v := .bool true) rfl (by kernel_rfl) (by kernel_rfl) (by kernel_rfl) (fun _ _ _ h => h) (Or.inl ⟨by rfl, fun wq hSw => by (try dsimp only at hSw); go_simp⟩) (by assumption) ?_
      try simp only [Act.put, List.setIfInBounds_toArray, List.set_cons_zero, List.set_cons_succ]
      refine wpAnyH_take (i := 20) (oi := { dst := some 175, op := Op.move (Operand.tmp 21), type := 3, pos := "law.go:629", after := #[{ on := 19, ground := Ground.guard }], guard := some (19, true) }) (v := .int .i64 LS) rfl (by kernel_rfl) (by kernel_rfl) (by kernel_rfl) (fun _ _ _ h => h) (Or.inl ⟨by rfl, fun wq hSw => by (try dsimp only at hSw); go_simp⟩) (by assumption) ?_
      try simp only [Act.put, List.setIfInBounds_toArray, List.set_cons_zero, List.set_cons_succ]
      refine wpAnyH_take (i := 21) (oi := { dst := some 176, op := Op.move (Operand.tmp 20), type := 3, pos := "law.go:629", after := #[{ on := 19, ground := Ground.guard }], guard := some (19, true) }) (v := .int .i64 LS) rfl (by kernel_rfl) (by kernel_rfl) (by kernel_rfl) (fun _ _ _ h => h) (Or.inl ⟨by rfl, fun wq hSw => by (try dsimp only at hSw); go_simp⟩) (by assumption) ?_
      try simp only [Act.put, List.setIfInBounds_toArray, List.set_cons_zero, List.set_cons_succ]
      refine wpAnyH_take (i := 22) (oi := { dst := some 177, op := Op.binOp BinOp.eql 3 (Operand.tmp 175) (Operand.tmp 176) 3, type := 4, pos := "law.go:629", after := #[{ on := 20, ground := Ground.data }, { on := 21, ground := Ground.data }, { on := 19, ground := Ground.guard }], guard := some (19, true) }) (v := .bool true) rfl (by kernel_rfl) (by kernel_rfl) (by kernel_rfl) (fun _ _ _ h => h) (Or.inl ⟨by rfl, fun wq hSw => by (try dsimp only at hSw); go_simp⟩) (by assumption) ?_
      try simp only [Act.put, List.setIfInBounds_toArray, List.set_cons_zero, List.set_cons_succ]
      refine wpAnyH_take (i := 23) (oi := { dst := some 178, op := Op.pick (Operand.tmp 174) (Operand.tmp 177) (Operand.const (Value.bool false)), type := 4, pos := "law.go:629", after := #[{ on := 19, ground := Ground.data }, { on := 22, ground := Ground.data }], guard := none }) (v := .bool true) rfl (by kernel_rfl) (by kernel_rfl) (by kernel_rfl) (fun _ _ _ h => h) (Or.inl ⟨by rfl, fun wq hSw => by (try dsimp only at hSw); go_simp⟩) (by assumption) ?_
      try simp only [Act.put, List.setIfInBounds_toArray, List.set_cons_zero, List.set_cons_succ]
      refine wpAnyH_take (i := 24) (oi := { dst := some 179, op := Op.move (Operand.tmp 178), type := 4, pos := "law.go:629", after := #[{ on := 23, ground := Ground.data }, { on := 19, ground := Ground.chain }], guard := none }) (v := .bool true) rfl (by kernel_rfl) (by kernel_rfl) (by kernel_rfl) (fun _ _ _ h => h) (Or.inl ⟨by rfl, fun wq hSw => by (try dsimp only at hSw); go_simp⟩) (by assumption) ?_
      try simp only [Act.put, List.setIfInBounds_toArray, List.set_cons_zero, List.set_cons_succ]
      refine wpAnyH_take (i := 25) (oi := { dst := some 180, op := Op.move (Operand.tmp 26), type := 4, pos := "law.go:629", after := #[{ on := 24, ground := Ground.guard }], guard := some (24, true) }) (v := .bool true) rfl (by kernel_rfl) (by kernel_rfl) (by kernel_rfl) (fun _ _ _ h => h) (Or.inl ⟨by rfl, fun wq hSw => by (try dsimp only at hSw); go_simp⟩) (by assumption) ?_
      try simp only [Act.put, List.setIfInBounds_toArray, List.set_cons_zero, List.set_cons_succ]
      refine wpAnyH_take (i := 26) (oi := { dst := some 181, op := Op.pick (Operand.tmp 179) (Operand.tmp 180) (Operand.const (Value.bool false)), type := 4, pos := "law.go:629", after := #[{ on := 24, ground := Ground.data }, { on := 25, ground := Ground.data }], guard := none }) (v := .bool true) rfl (by kernel_rfl) (by kernel_rfl) (by kernel_rfl) (fun _ _ _ h => h) (Or.inl ⟨by rfl, fun wq hSw => by (try dsimp only at hSw); go_simp⟩) (by assumption) ?_
      try simp only [Act.put, List.setIfInBounds_toArray, List.set_cons_zero, List.set_cons_succ]
      refine wpAnyH_take (i := 27) (oi := { dst := some 182, op := Op.move (Operand.tmp 181), type := 4, pos := "law.go:629", after := #[{ on := 26, ground := Ground.data }, { on := 24, ground := Ground.chain }], guard := none }) (v := .bool true) rfl (by kernel_rfl) (by kernel_rfl) (by kernel_rfl) (fun _ _ _ h => h) (Or.inl ⟨by rfl, fun wq hSw => by (try dsimp only at hSw); go_simp⟩) (by assumption) ?_
      try simp only [Act.put, List.setIfInBounds_toArray, List.set_cons_zero, List.set_cons_succ]
      refine wpAnyH_take (i := 28) (oi := { dst := some 183, op := Op.move (Operand.tmp 5), type := 24, pos := "law.go:629", after := #[{ on := 27, ground := Ground.guard }], guard := some (27, true) }) (v := .pointer (some ⟨p, 0, none⟩)) rfl (by kernel_rfl) (by kernel_rfl) (by kernel_rfl) (fun _ _ _ h => h) (Or.inl ⟨by rfl, fun wq hSw => by (try dsimp only at hSw); go_simp⟩) (by assumption) ?_
      try simp only [Act.put, List.setIfInBounds_toArray, List.set_cons_zero, List.set_cons_succ]
      refine wpAnyH_take (i := 31) (oi := { dst := some 186, op := Op.move (Operand.tmp 6), type := 22, pos := "law.go:629", after := #[{ on := 27, ground := Ground.guard }], guard := some (27, true) }) (v := .slice am N cm) rfl (by kernel_rfl) (by kernel_rfl) (by kernel_rfl) (fun _ _ _ h => h) (Or.inl ⟨by rfl, fun wq hSw => by (try dsimp only at hSw); go_simp⟩) (by assumption) ?_
      try simp only [Act.put, List.setIfInBounds_toArray, List.set_cons_zero, List.set_cons_succ]
      refine wpAnyH_take (i := 32) (oi := { dst := some 187, op := Op.convert 22 9 (Operand.tmp 186), type := 9, pos := "law.go:629", after := #[{ on := 31, ground := Ground.data }, { on := 27, ground := Ground.guard }], guard := some (27, true) }) (v := .string SX) rfl (by kernel_rfl) (by kernel_rfl) (by kernel_rfl) (fun _ _ _ h => h) (Or.inl ⟨by rfl, fun wq hSw => by (try dsimp only at hSw); go_simp⟩) (by assumption) ?_
      try simp only [Act.put, List.setIfInBounds_toArray, List.set_cons_zero, List.set_cons_succ]
      refine wpAnyH_ready (rs := [29]) (by kernel_rfl) (by simp) ?_
      refine AllReadyH.cons (o := { dst := some 184, op := Op.call { callee := Callee.value (Operand.func 15), args := #[Operand.tmp 183], argTypes := #[24] }, type := 22, pos := "law.go:629", after := #[{ on := 28, ground := Ground.data }, { on := 27, ground := Ground.chain }, { on := 27, ground := Ground.guard }], guard := some (27, true) }) rfl (fun K hK => ?_) AllReadyH.nil
      go_simp
      refine (unhide HEND).mono ?_
      rintro e w8 ⟨a8, c8, rfl, k1, k2, k3, hb8⟩
      refine hK.out _ _ ⟨k2, k3⟩ (fun _ => wpAnyH_turn (S2 := fun wq => ((convert 22 9 (.slice am N cm)).run Tryz.prog wq = .ok (.string SX) wq ∧ ((wq.cell? ⟨g1, 0, none⟩ = some (.int .i64 O) ∧ wq.cell? ⟨g1, 1, none⟩ = some (.int .i64 U) ∧ wq.cell? ⟨g1, 2, none⟩ = some (.int .i64 F) ∧ wq.cell? ⟨g1, 3, none⟩ = some (.int .i64 M) ∧ wq.cell? ⟨g1, 4, none⟩ = some (.int .i64 R)) ∧ wq.cell? ⟨g2, 0, none⟩ = some (.int .i64 O) ∧ wq.cell? ⟨g2, 1, none⟩ = some (.int .i64 U) ∧ wq.cell? ⟨g2, 2, none⟩ = some (.int .i64 F) ∧ wq.cell? ⟨g2, 3, none⟩ = some (.int .i64 M) ∧ wq.cell? ⟨g2, 4, none⟩ = some (.int .i64 R))) ∧ (convert 22 9 (.slice a8 N c8)).run Tryz.prog wq = .ok (.string SX) wq) (fun _ h => h.1) _ _ _ _ ?_)
      have hHeld2 := And.intro (And.intro k2 k3) k1
      clear hK K hHeld
      try simp only [Act.put, List.setIfInBounds_toArray, List.set_cons_zero, List.set_cons_succ]
      refine wpAnyH_take (i := 30) (oi := { dst := some 185, op := Op.convert 22 9 (Operand.tmp 184), type := 9, pos := "law.go:629", after := #[{ on := 29, ground := Ground.data }, { on := 27, ground := Ground.guard }], guard := some (27, true) }) (v := .string SX) rfl (by kernel_rfl) (by kernel_rfl) (by kernel_rfl) (fun _ _ _ h => h) (Or.inl ⟨by rfl, fun wq hSw => by (try dsimp only at hSw); go_simp⟩) (by assumption) ?_
      try simp only [Act.put, List.setIfInBounds_toArray, List.set_cons_zero, List.set_cons_succ]
      refine wpAnyH_take (i := 33) (oi := { dst := some 188, op := Op.binOp BinOp.eql 9 (Operand.tmp 185) (Operand.tmp 187) 9, type := 4, pos := "law.go:629", after := #[{ on := 30, ground := Ground.data }, { on := 32, ground := Ground.data }, { on := 27, ground := Ground.guard }], guard := some (27, true) }) (v := .bool true) rfl (by kernel_rfl) (by kernel_rfl) (by kernel_rfl) (fun _ _ _ h => h) (Or.inl ⟨by rfl, fun wq hSw => by (try dsimp only at hSw); go_simp⟩) (by assumption) ?_
      try simp only [Act.put, List.setIfInBounds_toArray, List.set_cons_zero, List.set_cons_succ]
      refine wpAnyH_take (i := 34) (oi := { dst := some 189, op := Op.pick (Operand.tmp 182) (Operand.tmp 188) (Operand.const (Value.bool false)), type := 4, pos := "law.go:629", after := #[{ on := 27, ground := Ground.data }, { on := 33, ground := Ground.data }], guard := none }) (v := .bool true) rfl (by kernel_rfl) (by kernel_rfl) (by kernel_rfl) (fun _ _ _ h => h) (Or.inl ⟨by rfl, fun wq hSw => by (try dsimp only at hSw); go_simp⟩) (by assumption) ?_
      try simp only [Act.put, List.setIfInBounds_toArray, List.set_cons_zero, List.set_cons_succ]
      refine wpAnyH_take (i := 35) (oi := { dst := some 4, op := Op.assign (Operand.tmp 189), type := 4, pos := "law.go:629", after := #[{ on := 34, ground := Ground.data }, { on := 29, ground := Ground.chain }, { on := 0, ground := Ground.phase }, { on := 1, ground := Ground.phase }, { on := 2, ground := Ground.phase }, { on := 3, ground := Ground.phase }, { on := 4, ground := Ground.phase }, { on := 5, ground := Ground.phase }, { on := 6, ground := Ground.phase }, { on := 7, ground := Ground.phase }, { on := 8, ground := Ground.phase }, { on := 9, ground := Ground.phase }, { on := 10, ground := Ground.phase }, { on := 11, ground := Ground.phase }, { on := 12, ground := Ground.phase }, { on := 13, ground := Ground.phase }, { on := 14, ground := Ground.phase }, { on := 15, ground := Ground.phase }, { on := 16, ground := Ground.phase }, { on := 17, ground := Ground.phase }, { on := 18, ground := Ground.phase }, { on := 19, ground := Ground.phase }, { on := 20, ground := Ground.phase }, { on := 21, ground := Ground.phase }, { on := 22, ground := Ground.phase }, { on := 23, ground := Ground.phase }, { on := 24, ground := Ground.phase }, { on := 25, ground := Ground.phase }, { on := 26, ground := Ground.phase }, { on := 27, ground := Ground.phase }, { on := 28, ground := Ground.phase }, { on := 29, ground := Ground.phase }, { on := 30, ground := Ground.phase }, { on := 31, ground := Ground.phase }, { on := 32, ground := Ground.phase }, { on := 33, ground := Ground.phase }, { on := 34, ground := Ground.phase }], guard := none }) (v := .bool true) rfl (by kernel_rfl) (by kernel_rfl) (by kernel_rfl) (fun _ _ _ h => h) (Or.inl ⟨by rfl, fun wq hSw => by (try dsimp only at hSw); go_simp⟩) (by assumption) ?_
      try simp only [Act.put, List.setIfInBounds_toArray, List.set_cons_zero, List.set_cons_succ]
      refine wpAnyH_done (by kernel_rfl) ?_ _
      have HB9 := hide hb8
      clear hb8 HEND k1 k2 k3 hcv x0 x1 x2 x3 x4 y0 y1 y2 y3 y4
      go_wp2
      go_ret
      exact ⟨rfl, unhide HB9⟩
end Go.Proofs.YtpeglgkhpgifnaaGreatDoor
