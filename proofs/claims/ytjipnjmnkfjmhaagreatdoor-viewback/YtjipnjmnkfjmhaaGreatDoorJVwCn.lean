/-
  Contracts of package view: Commit. (Part of the proofs over package view.)
-/
import Derived.Test.YtjipnjmnkfjmhaaGreatDoorJVwCm
import Derived.Maps.AppendAt
import Derived.Deep.CutRange
namespace Go.Proofs.YtjipnjmnkfjmhaaGreatDoor
open Go.RowKit Go.MapKept Go.ChangeMaps
open Go.Maps (Keyed)
set_option linter.unusedVariables false

/-- The pages while they are taken over: those whose key is still to come are as they were. -/
def mixK (K : List (List Int)) (M : List (Nat × List Int)) (left : Lit → Bool) : List (List Int) := (List.range K.length).map (fun i : Nat => if left (.int .i64 (i : Int)) then K.getD i [] else vRd K M i)
theorem length_mixK (K : List (List Int)) (M : List (Nat × List Int)) (left : Lit → Bool) : (mixK K M left).length = K.length := by unfold mixK; simp
theorem mixK_start {K : List (List Int)} {M : List (Nat × List Int)} {left : Lit → Bool} (h : ∀ i : Nat, left (.int .i64 (i : Int)) = (M.lookup i).isSome) : mixK K M left = K := by
  apply List.ext_getElem?
  intro i
  unfold mixK
  rw [List.getElem?_map]
  by_cases hi : i < K.length
  · rw [List.getElem?_range hi, List.getElem?_eq_getElem hi]
    simp only [Option.map_some]
    have e : K.getD i [] = K[i] := by rw [List.getD_eq_getElem?_getD, List.getElem?_eq_getElem hi]; rfl
    rw [h i]
    cases hl : M.lookup i with
    | none => unfold vRd; rw [hl]; simp only [Option.isSome_none, Bool.false_eq_true, if_false, Option.getD_none, e]
    | some b => simp only [Option.isSome_some, if_true, e]
  · rw [List.getElem?_eq_none (l := List.range K.length) (by simp; omega), List.getElem?_eq_none (l := K) (by omega)]
    rfl
theorem mixK_step {K : List (List Int)} {M : List (Nat × List Int)} {left : Lit → Bool} {i : Nat} (hi : i < K.length) : mixK K M (fun z => left z && !z.sameKey (.int .i64 (i : Int))) = (mixK K M left).set i (vRd K M i) := by
  apply List.ext_getElem?
  intro j
  rw [List.getElem?_set, length_mixK]
  unfold mixK
  rw [List.getElem?_map, List.getElem?_map]
  by_cases hj : j < K.length
  · rw [List.getElem?_range hj]
    simp only [Option.map_some]
    by_cases e : i = j
    · subst e
      rw [if_pos rfl, if_pos hi]
      simp [Lit.sameKey]
    · rw [if_neg e]
      have : (Lit.int .i64 (j : Int)).sameKey (.int .i64 (i : Int)) = false := by simp [Lit.sameKey]; omega
      simp [this]
  · rw [List.getElem?_eq_none (by simp; omega), if_neg (by omega)]
    rfl
theorem mixK_end {K : List (List Int)} {M : List (Nat × List Int)} {left : Lit → Bool} (h : ∀ kl, left kl = false) : mixK K M left = nowK K M := by
  unfold mixK nowK
  apply List.map_congr_left
  intro i _
  rw [h]
  rfl
section
variable {w0 w w' : World} {p q v gk gm : Nat} {S S' : Nat → Prop} {D D' : DS} {s s' : Int} {n : Nat} {K K' : List (List Int)} {M M' : List (Nat × List Int)}
theorem Vw.mixSec (h : Vw w v q gk gm K M) (left : Lit → Bool) : ∀ x ∈ mixK K M left, Sec x := by
  intro x hx
  unfold mixK at hx
  obtain ⟨i, hi, rfl⟩ := List.mem_map.1 hx
  have hi := List.mem_range.1 hi
  split
  · exact sec_getD h.sec hi
  · exact h.rdSec hi
theorem live_only {g : Nat} (hl : Live w0 w p S D) (ho : OnlyV g w w') (hg : ¬ S g) (hb : w0.heap.size ≤ g) : Live w0 w' p S D :=
  ⟨hl.dev.turn ho (fun k hk e => hg (e ▸ hk)), hl.bel.trans (ho.below (fun k e => e ▸ hb) hl.bel.size), hl.base⟩
theorem sv_inj {a b : List Int} (h : sv a = sv b) : a = b := by
  unfold sv cellsB at h
  injection h with h
  have h2 : a.map (Value.int .u8) = b.map (Value.int .u8) := by simpa using congrArg Array.toList h
  have h3 := congrArg (List.map unU8) h2
  rw [List.map_map, List.map_map] at h3
  have e : (unU8 ∘ Value.int .u8) = id := by funext z; rfl
  rw [e, List.map_id, List.map_id] at h3
  exact h3
theorem turn_footV (h : Turn (plus S q) (plus S' q) w w') (gk gm : Nat) : Turn (footV S q gk gm) (footV S' q gk gm) w w' :=
  ⟨h.os, h.tape, h.output, h.size, fun k hk hn => h.block k hk (fun hs => hn (.inl hs)), fun k hk hs => by
    rcases hs with hs | hs
    · exact .inl (h.foot k hk hs)
    · exact .inr hs⟩
theorem turn_inV {U : Nat → Prop} (h : Turn U U w w') (hU : ∀ k, U k → k = gk ∨ k = gm) : Turn (footV S q gk gm) (footV S q gk gm) w w' :=
  ⟨h.os, h.tape, h.output, h.size, fun k hk hn => h.block k hk (fun hu => hn (.inr (hU k hu))), fun k hk hs => hs⟩

set_option maxRecDepth 100000 in
set_option maxHeartbeats 8000000 in
theorem Vb.commit (h : Vb w0 w p q v gk gm S D s n K M) (hM : M.length ≤ 23) (hs : s ≤ 900) (hs0 : 0 ≤ s) :
    Calls Tryz.prog 13 #[.pointer (some ⟨v, 0, none⟩)] w fun e w' => e = .returned .nilIface ∧ ∃ S' D' s', Vb w0 w' p q v gk gm S' D' s' n (nowK K M) [] ∧ s ≤ s' ∧ s' ≤ s + 1 ∧ Turn (footV S q gk gm) (footV S' q gk gm) w w' := by
  have HD := hide (vDirty_any h.view (by omega))
  have hL := h.view.len
  have H := hide h
  obtain ⟨ip, hp0, hp1, hp2, hp3⟩ := info_parts info_pageV
  have law := Maps.int_keyed (P := Tryz.prog) Tryz.underlying3
  clear h
  go_enter Tryz.func13, Tryz.ntmps13
  go_wp2_with fail
  refine (unhide HD).mono ?_
  rintro e w1 ⟨dv, rfl, hrow, hb1⟩
  obtain ⟨da, dc, rfl, hcell⟩ := ints_form hrow
  have HC := hide hcell
  have hv1 := (unhide H).below hb1
  have HV1 := hide hv1
  have HB1 := hide hb1
  clear hrow hcell hb1 HD hv1
  go_wp2_with fail
  go_loopw [3, 13] (fun xv kv wr => ∃ k : Nat, k ≤ M.length ∧ kv = .int .i64 k ∧ Ys wr w1.heap.size xv (handed K M k) ∧ Below w1.heap.size w1 wr) (fun _ kv _ => M.length - (intOf kv).toNat)
  case atStart => exact ⟨0, Nat.zero_le _, rfl, Ys.nil _ _, Below.refl _ _⟩
  case round =>
    obtain ⟨k, hk, rfl, hys, hbel⟩ := hrel
    by_cases hlt : k < M.length
    · obtain ⟨gd, rfl, hcd⟩ := unhide HC k hlt
      have c0 := (hbel.cell (p := ⟨gd, k, none⟩) (block_lt_of_cell hcd)).trans hcd
      have hvr := (unhide HV1).below hbel
      obtain ⟨i, hi, hiK, his⟩ := hvr.view.dirtyAt hlt
      rw [hi] at c0
      have c2 := hvr.view.c2
      have hlook := hvr.view.mem.memAt.look (E := 60) Tryz.underlying3 Tryz.underlying61 (zero_body wr) false (i := i) (by omega)
      have hmv : memV M i = vRd K M i := by
        unfold memV vRd
        cases e : M.lookup i with
        | none => rw [e] at his; cases his
        | some b => rfl
      rw [hmv] at hlook
      simp only [Bool.false_eq_true, if_false] at hlook
      unfold sv at hlook
      have hsec := hvr.view.rdSec hiK
      have hsucc := handed_succ K M hlt
      rw [hi, Int.toNat_natCast] at hsucc
      generalize vRd K M i = pb at *
      have hst : (storeCells ⟨wr.heap.size, 0, none⟩ (cellsB pb).toList 0).run Tryz.prog (wr.alloc (.cells #[.int .u8 0, .int .u8 0, .int .u8 0, .int .u8 0, .int .u8 0, .int .u8 0, .int .u8 0, .int .u8 0, .int .u8 0, .int .u8 0, .int .u8 0, .int .u8 0, .int .u8 0, .int .u8 0, .int .u8 0, .int .u8 0, .int .u8 0, .int .u8 0, .int .u8 0, .int .u8 0, .int .u8 0, .int .u8 0, .int .u8 0, .int .u8 0, .int .u8 0, .int .u8 0, .int .u8 0, .int .u8 0, .int .u8 0, .int .u8 0, .int .u8 0, .int .u8 0] 60)) = .ok () (wr.alloc (.cells (cellsB pb) 60)) :=
        run_storeCells_new wr 60 #[.int .u8 0, .int .u8 0, .int .u8 0, .int .u8 0, .int .u8 0, .int .u8 0, .int .u8 0, .int .u8 0, .int .u8 0, .int .u8 0, .int .u8 0, .int .u8 0, .int .u8 0, .int .u8 0, .int .u8 0, .int .u8 0, .int .u8 0, .int .u8 0, .int .u8 0, .int .u8 0, .int .u8 0, .int .u8 0, .int .u8 0, .int .u8 0, .int .u8 0, .int .u8 0, .int .u8 0, .int .u8 0, .int .u8 0, .int .u8 0, .int .u8 0, .int .u8 0] (cellsB pb) (by rw [size_cellsB, hsec.1]; exact size_body) (by rw [size_cellsB, hsec.1]; rfl) (all_oneCell pb)
      have hsz : (cellsB pb).size = 32 := by rw [size_cellsB]; exact hsec.1
      have hBr := hbel.size
      obtain ⟨xs, hown, hxc⟩ := hys
      have hlenk := length_handed K M hk
      rw [hlenk] at hown
      have HOB := hide (own_block hown)
      have HO := hide (World.ownsRow.alloc (World.ownsRow.alloc hown (.cells (cellsB pb) 60)) (.cells #[.int .i64 (i : Int), .slice (some ⟨wr.heap.size, 0, none⟩) 32 32] 76))
      have HOWN := hide hown
      have HXC := hide hxc
      have HSUCC := hide hsucc
      have HSEC := hide hsec
      have HBEL := hide hbel
      have e0 : (k : Int) < (M.length : Int) := by omega
      have e1 : (0 : Int) ≤ (k : Int) := by omega
      clear hown hxc hsucc hvr hcd hmv hbel hsec
      go_wp2_with (at_builtin; refine wpList_append_own_at _ rfl _ _ 74 rfl w1.heap.size 76 ip (.agg #[.int .i64 0, .slice none 0 0]) 2 32 Tryz.underlying74 hp0 hp1 hp2 hp3 rfl (by decide) _ _ _ rfl (unhide HO) ⟨wr.heap.size + 1, 0, none⟩ 1 1 [.int .i64 (i : Int), .slice (some ⟨wr.heap.size, 0, none⟩) 32 32] rfl rfl (cell_two_at _ _ _ _ _) (one_pageV _ _ _ _) (by unfold maxLen; omega) (by omega) (by simp; omega) ?_)
      intro v9 w9 hown9 hgrow9 _ hat9
      have hat := hat9.imp_right (fun h9 => h9.trans (show some _ = some (wr.heap.size + 2) by simp))
      have hys9 : Ys w9 w1.heap.size v9 (handed K M k ++ [((i : Int), pb)]) := Ys.more (x := handed K M k) (by rw [hlenk]; exact unhide HOWN) (unhide HXC) hBr (unhide HSEC) (by omega) (by omega) hgrow9 hat (by rw [hlenk]; exact hown9)
      rw [← unhide HSUCC] at hys9
      have hbel9 : Below w1.heap.size w1 w9 := (((unhide HBEL).alloc hBr _).alloc (by simp; omega) _).trans ((Turn.grown (S := fun k => w1.heap.size ≤ k) hgrow9 (unhide HOB)).below (fun _ h => h) (by simp; omega))
      have HYS := hide hys9
      have HBL := hide hbel9
      clear hys9 hbel9 hown9 hgrow9 hat9 hat HO HOB HOWN HXC HSUCC HSEC HBEL
      go_wp2
      go_roundw
      case rel => exact ⟨k + 1, by omega, by go_num, unhide HYS, unhide HBL⟩
      case measure => simp [intOf]; omega
    · obtain rfl : k = M.length := by omega
      have hvr := (unhide HV1).below hbel
      obtain ⟨xa, xc, rfl, hpo⟩ := hys.pgsO (S := S) (by rw [length_handed K M (Nat.le_refl _)]; omega) (fun k hk => (unhide HV1).live.dev.lt k hk)
      rw [length_handed K M (Nat.le_refl _)]
      have HCM := hide (hvr.handOn hM hs hs0 hpo)
      have HVR := hide hvr
      have HBR := hide hbel
      have c0 := hvr.view.c0
      clear hvr hpo hys hbel
      go_wp2_with fail
      refine (unhide HCM).mono ?_
      rintro e w3 ⟨rfl, S3, D3, s3, ht3, hs31, hs32, hl3, hpg3, hout3, hneat3, hleft3, hlen3⟩
      have hvr := unhide HVR
      have hvw3 : Vw w3 v q gk gm K M := hvr.view.same (ht3.block v hvr.view.vlt hvr.nv) (ht3.block gk hvr.view.kept.lt hvr.nk) (ht3.block gm hvr.view.mem.lt hvr.nm)
      have hn3v : ¬ plus S3 q v := fun hh => hvr.nv (ht3.foot v hvr.view.vlt hh)
      have hn3k : ¬ plus S3 q gk := fun hh => hvr.nk (ht3.foot gk hvr.view.kept.lt hh)
      have hn3m : ¬ plus S3 q gm := fun hh => hvr.nm (ht3.foot gm hvr.view.mem.lt hh)
      have hT3 : Turn (footV S q gk gm) (footV S3 q gk gm) w w3 := ((Turn.of_below (unhide HB1)).trans (Turn.of_below (unhide HBR))).trans (turn_footV ht3 gk gm)
      obtain ⟨Dm, hown, hsize, hnd, hneg, hD⟩ := hvw3.mem
      have c2 := hvw3.c2
      have HVW := hide hvw3
      have HOWN := hide hown
      have HREST := hide (And.intro hl3 (And.intro hpg3 (And.intro hout3 (And.intro hneat3 (And.intro hleft3 hlen3)))))
      have HN3 := hide (And.intro hn3v (And.intro hn3k hn3m))
      have HT3 := hide hT3
      have HS3 := hide (And.intro hs31 hs32)
      have HBB := hide (And.intro hvr.bv (And.intro hvr.bk (And.intro hvr.bm (And.intro hvr.base hvr.cnt))))
      have HNEG := hide hneg
      have HD := hide hD
      clear hvr hvw3 hn3v hn3k hn3m hT3 hown hl3 hpg3 hout3 hneat3 hleft3 hlen3 ht3 HCM HVR HBR hneg hD hs31 hs32
      go_wp2_with (first
        | (at_range; refine wpList_range_own _ rfl _ 61 rfl 3 60 law Tryz.underlying61 _ gm M.length _ rfl (unhide HOWN) ?_; intro w4 hrg0 hg0 hs4)
        | go_in)
      go_frame
      have hO4 : OnlyV gk w3 w4 := Turn.grown (S := fun k => k = gk) hg0 (fun k hk => by cases hk)
      have hstart : RowT w4 gk 60 (mixK K M (Maps.has Dm)).flatten ∧ OnlyV gk w3 w4 := by
        rw [mixK_start (fun i => ((unhide HD) i).1)]
        exact ⟨(unhide HVW).kept.same (hg0.block gk (unhide HVW).kept.lt (by simp)), hO4⟩
      have HST := hide hstart
      have HRG := hide hrg0
      clear hstart hrg0 hg0 hO4
      go_loopw [8] (fun _ wr => ∃ left cnt, wr.ranges Tryz.prog 3 secR gm w3.heap.size M.length Dm left cnt ∧ (∀ z : Int, left (.int .i64 z) = true → Maps.has Dm (.int .i64 z) = true) ∧ RowT wr gk 60 (mixK K M left).flatten ∧ OnlyV gk w3 wr) (fun _ wr => wr.rangeLeft gm w3.heap.size)
      case atStart => exact ⟨_, _, unhide HRG, fun z hz => hz, (unhide HST).1, (unhide HST).2⟩
      case round =>
        obtain ⟨left, cnt, hrg, hlh, hrow, honly⟩ := hrel
        clear HST HRG
        have HROW := hide hrow
        have HONLY := hide honly
        have HLH := hide hlh
        clear hrow honly hlh
        go_wp2_with (first
          | (at_next; refine wpList_next_ranges _ rfl _ rfl 3 law secR (Value.int .i64) sv (fun key kl hkey => by obtain ⟨x, rfl, _⟩ := Maps.keyOf_int_inv Tryz.underlying3 hkey; exact ⟨x, rfl⟩) (fun u y hu => by obtain ⟨c, _, rfl, _⟩ := secR_inv (d := y.1) (ps := y.2) hu; exact ⟨c, rfl⟩) gm w3.heap.size M.length _ _ _ rfl hrg ?_ ?_)
          | go_in)
        · intro hc0 hl0
          have hrowE := unhide HROW
          rw [mixK_end hl0] at hrowE
          have hvo := unhide HVW
          have ho := unhide HONLY
          have hgm0 : gm ≠ gk := fun e => hvo.nkm e.symm
          have hmE : VMem wr gm M := hvo.mem.same (ho.block gm hvo.mem.lt hgm0)
          obtain ⟨w6, hclr, hm6, ht6⟩ := hmE.clear
          have c2E : wr.cell? ⟨v, 2, none⟩ = some (.map (some gm)) := (World.cell?_of_block (a := ⟨v, 2, none⟩) (ho.block v hvo.vlt hvo.nvk)).trans hvo.c2
          have hO6 : OnlyV gm wr w6 := Turn.map ht6 rfl
          have hsz := ho.size
          have hv6 : Vw w6 v q gk gm (nowK K M) [] := by
            refine ⟨?_, hrowE.same (hO6.block gk hrowE.lt hvo.nkm), ?_, by rw [length_nowK]; exact hvo.len, hm6, fun x hx => (by cases hx), hvo.nvk, hvo.nvm, hvo.nkm⟩
            · rw [length_nowK]
              exact ((hO6.block v (Nat.lt_of_lt_of_le hvo.vlt hsz) hvo.nvm).trans (ho.block v hvo.vlt hvo.nvk)).trans hvo.blk
            · have := hvo.mixSec (fun _ => false)
              rwa [mixK_end (fun _ => rfl)] at this
          obtain ⟨r1, r2, r3, ⟨P, pa, nl, hn, hP⟩, r5, r6⟩ := unhide HREST
          obtain ⟨n1, n2, n3⟩ := unhide HN3
          obtain ⟨b1, b2, b3, b4, b5⟩ := unhide HBB
          have hl6 : Live w0 w6 p S3 D3 := live_only (live_only r1 ho (fun hh => n2 (.inl hh)) b2) hO6 (fun hh => n3 (.inl hh)) b3
          have hq1 := (r2.turn ho (fun e => n2 (.inr e.symm))).1
          have hq2 := (hq1.turn hO6 (fun e => n3 (.inr e.symm))).1
          have HFIN : Hid (Vb w0 w6 p q v gk gm S3 D3 s3 n (nowK K M) []) := hide ⟨hl6, hq2, r3, b4, ⟨P, pa, nl, by rw [length_nowK]; exact hn, fun i hi => by rw [length_nowK] at hi; exact hP i hi⟩, r5, r6, by rw [length_nowK]; exact b5, hv6, n1, n2, n3, b1, b2, b3⟩
          have HTF : Hid (Turn (footV S q gk gm) (footV S3 q gk gm) w w6) := hide (((unhide HT3).trans (turn_inV ho (fun k e => .inl e))).trans (turn_inV hO6 (fun k e => .inr e)))
          clear hrowE hvo ho hmE hm6 ht6 hO6 hv6 r1 r2 r3 r5 r6 hn hP hl6 hq1 hq2 hrg hc0 hl0 HROW HONLY HLH HVW HOWN HREST HT3
          go_wp2
          go_ret
          exact ⟨rfl, S3, D3, s3, unhide HFIN, (unhide HS3).1, (unhide HS3).2, unhide HTF⟩
        · intro x c kl yd yp w5 cnt5 hkey hlk hv hat hrg5 hlt5 hg5 hs5 hen
          obtain ⟨x', ex, rfl, hwx⟩ := Maps.keyOf_int_inv Tryz.underlying3 hkey
          cases ex
          have hh := unhide HLH x hlk
          have h0 := unhide HNEG x hh
          obtain ⟨i, rfl⟩ : ∃ i : Nat, x = i := ⟨x.toNat, by omega⟩
          have hDi := unhide HD i
          rw [hDi.1] at hh
          obtain ⟨b, hb⟩ := Option.isSome_iff_exists.1 hh
          obtain ⟨l, hl32, hcl, hyl⟩ := secR_inv hv
          have hbl : sd l = sd b := by rw [← hyl, ← hat (sd (zerosB 32)), hDi.2 b hb]
          obtain rfl := sd_inj hbl
          obtain rfl := sv_inj hcl
          have hvo := unhide HVW
          have hmo := hvo.memOk _ (lookup_mem hb)
          have hiK : i < K.length := hmo.1
          have hsec : Sec c := hmo.2
          have hvr : vRd K M i = c := by unfold vRd; rw [hb]; rfl
          have hst : (storeCells ⟨w5.heap.size, 0, none⟩ (cellsB c).toList 0).run Tryz.prog (w5.alloc (.cells #[.int .u8 0, .int .u8 0, .int .u8 0, .int .u8 0, .int .u8 0, .int .u8 0, .int .u8 0, .int .u8 0, .int .u8 0, .int .u8 0, .int .u8 0, .int .u8 0, .int .u8 0, .int .u8 0, .int .u8 0, .int .u8 0, .int .u8 0, .int .u8 0, .int .u8 0, .int .u8 0, .int .u8 0, .int .u8 0, .int .u8 0, .int .u8 0, .int .u8 0, .int .u8 0, .int .u8 0, .int .u8 0, .int .u8 0, .int .u8 0, .int .u8 0, .int .u8 0] 60)) = .ok () (w5.alloc (.cells (cellsB c) 60)) :=
            run_storeCells_new w5 60 #[.int .u8 0, .int .u8 0, .int .u8 0, .int .u8 0, .int .u8 0, .int .u8 0, .int .u8 0, .int .u8 0, .int .u8 0, .int .u8 0, .int .u8 0, .int .u8 0, .int .u8 0, .int .u8 0, .int .u8 0, .int .u8 0, .int .u8 0, .int .u8 0, .int .u8 0, .int .u8 0, .int .u8 0, .int .u8 0, .int .u8 0, .int .u8 0, .int .u8 0, .int .u8 0, .int .u8 0, .int .u8 0, .int .u8 0, .int .u8 0, .int .u8 0, .int .u8 0] (cellsB c) (by rw [size_cellsB, hsec.1]; exact size_body) (by rw [size_cellsB, hsec.1]; rfl) (all_oneCell c)
          have hsz : (cellsB c).size = 32 := by rw [size_cellsB]; exact hsec.1
          have ho := unhide HONLY
          have hrr := hrg.lt
          have hv3 : v < w3.heap.size := hvo.vlt
          have hk3 : gk < w3.heap.size := hvo.kept.lt
          have hm3 : gm < w3.heap.size := hvo.mem.lt
          have hszr := ho.size
          have hO5 : OnlyV gk w3 w5 := ⟨hg5.os.trans ho.os, hg5.tape.trans ho.tape, hg5.output.trans ho.output, by omega, fun k hk hn => (hg5.block k (by omega) (fun e => by have := Option.some.inj e; omega)).trans (ho.block k hk hn), fun _ _ h => h⟩
          have hO6 : OnlyV gk w3 (w5.alloc (.cells (cellsB c) 60)).drew := hO5.trans ((Turn.alloc _ _ _).trans (Turn.drew _ _))
          have hrow5 : RowT w5 gk 60 (mixK K M left).flatten := (unhide HROW).same (hg5.block gk (by omega) (fun e => by have := Option.some.inj e; omega))
          have hrow6 : RowT (w5.alloc (.cells (cellsB c) 60)).drew gk 60 (mixK K M left).flatten := hrow5.same (Below.heap_alloc _ _ _ (by omega))
          have h32 : ∀ s ∈ mixK K M left, s.length = 32 := fun s hs => (hvo.mixSec left s hs).1
          have hfit : i * 32 + c.length ≤ (mixK K M left).flatten.length := by rw [flat_len _ h32, length_mixK, hsec.1]; omega
          have hthere : (w5.alloc (.cells (cellsB c) 60)).drew.there gk (i * 32) (cellsB c).size := fun j hj => by
            rw [hsz] at hj
            rw [hsec.1] at hfit
            exact ⟨by rw [hrow6.cell (i * 32 + j) (by omega)]; rfl, frozen_of_row _ _ _ _ _ hrow6⟩
          obtain ⟨hrow7, ht7⟩ := setCells_row c _ _ (i * 32) hrow6 hfit
          rw [flat_splice _ _ _ h32 (by rw [length_mixK]; exact hiK) (by rw [hsec.1]; exact Nat.le_refl _), hsec.1, List.drop_of_length_le (by rw [(sec_getD (hvo.mixSec left) (by rw [length_mixK]; exact hiK)).1]; exact Nat.le_refl _), List.append_nil, ← hvr, ← mixK_step hiK] at hrow7
          rw [hvr] at hrow7
          have hth := hthere
          rw [hsz] at hth
          have c1 : (w5.alloc (.cells (cellsB c) 60)).cell? ⟨v, 1, none⟩ = some (.slice (some ⟨gk, 0, none⟩) K.length K.length) := (World.cell?_of_block (a := ⟨v, 1, none⟩) (hO6.block v hv3 hvo.nvk)).trans hvo.c1
          have c17 : ((w5.alloc (.cells (cellsB c) 60)).drew.setCells gk (i * 32) (c.map (Value.int .u8))).cell? ⟨v, 1, none⟩ = some (.slice (some ⟨gk, 0, none⟩) K.length K.length) := (World.cell?_of_block (a := ⟨v, 1, none⟩) (ht7.block v (by simp; omega) hvo.nvk)).trans c1
          have hnew : RowT (w5.alloc (.cells (cellsB c) 60)) w5.heap.size 60 c := heap_alloc_new _ _
          have hrg : (w5.alloc (.cells (cellsB c) 60)).rangeAt w5.heap.size 0 (c.map (Value.int .u8)) := range_mid 0 c hsec.1 hnew (by rw [List.drop_zero, List.take_of_length_le (by rw [hsec.1]; decide)])
          have rg7 : ((w5.alloc (.cells (cellsB c) 60)).drew.setCells gk (i * 32) (c.map (Value.int .u8))).rangeAt w5.heap.size 0 (c.map (Value.int .u8)) := fun j u hj => (World.cell?_of_block (a := ⟨w5.heap.size, 0 + j, none⟩) (ht7.block w5.heap.size (by simp) (by omega))).trans (hrg j u hj)
          have hu := Tryz.underlying60
          have hin : (Tryz.prog.info? 60).map (·.size) = some (c.map (Value.int .u8)).length := by rw [List.length_map, hsec.1]; exact size_body
          have hl32' : (c.map (Value.int .u8)).length = 32 := by rw [List.length_map, hsec.1]
          have hon := oneCell_u8 c
          have HLEFT : Hid (∀ z : Int, (fun z : Lit => left z && !z.sameKey (.int .i64 (i : Int))) (.int .i64 z) = true → Maps.has Dm (.int .i64 z) = true) := hide (fun z hz => unhide HLH z (by simp only [Bool.and_eq_true] at hz; exact hz.1))
          have hrg6 := hrg5.alloc (.cells (cellsB c) 60)
          have hgr7 : (w5.alloc (.cells (cellsB c) 60)).drew.grownBy ((w5.alloc (.cells (cellsB c) 60)).drew.setCells gk (i * 32) (c.map (Value.int .u8))) (some gk) := ⟨ht7.os, ht7.tape, ht7.output, ht7.size, fun k hk hne => ht7.block k hk (fun e => hne (by rw [e]))⟩
          have hrg7 : ((w5.alloc (.cells (cellsB c) 60)).drew.setCells gk (i * 32) (c.map (Value.int .u8))).ranges Tryz.prog 3 secR gm w3.heap.size M.length Dm (fun z => left z && !z.sameKey (.int .i64 (i : Int))) cnt5 := World.ranges.kept (w := (w5.alloc (.cells (cellsB c) 60)).drew) hrg6 hgr7 (fun e => hvo.nkm (Option.some.inj e).symm) (fun e => by have := Option.some.inj e; omega)
          have HREL := hide (And.intro hrg7 (And.intro (unhide HLEFT) (And.intro hrow7 (show OnlyV gk w3 _ from hO6.trans ht7))))
          have e0 : (i : Int) < (K.length : Int) := by omega
          have e1 : (0 : Int) ≤ (i : Int) := by omega
          have HOLD := hide ‹wr.ranges Tryz.prog 3 secR gm w3.heap.size M.length Dm left cnt›
          unfold sv at hen
          clear hrow7 ht7 hnew hrg6 hgr7 hrg7 hthere hrow5 hrow6 hO5 hO6 ho hvo hmo hfit h32 hDi hyl hat hv hh hb hkey HLEFT HROW HONLY HLH hlk hvr hbl hs5
          go_wp2_with fail
          go_region_held3 (fun w' => w'.cell? ⟨v, 1, none⟩ = some (.slice (some ⟨gk, 0, none⟩) K.length K.length) ∧ w'.rangeAt w5.heap.size 0 (c.map (Value.int .u8))) (first | go_keep_ranges | exact ⟨c17, rg7⟩) (fail)
          all_goals
            go_wp2
            go_roundw
            case rel => exact ⟨_, _, unhide HREL⟩
            case measure => rw [(unhide HREL).1.left_eq, (unhide HOLD).left_eq]; omega
end
end Go.Proofs.YtjipnjmnkfjmhaaGreatDoor
