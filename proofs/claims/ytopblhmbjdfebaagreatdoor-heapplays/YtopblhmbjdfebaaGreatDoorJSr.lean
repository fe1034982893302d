/-
  Joined by program: StepLst; SrA; AppBs; SrB; SrC; SrD; SrE; SrF; SrS; SrG; SrH; WyA; InSame; WyB; HeldTurn. (Parts of the proofs over the packages of the program.)
-/
import Derived.Test.YtopblhmbjdfebaaGreatDoorImRow
import Derived.Deep.AppendLies
import Derived.Test.YtopblhmbjdfebaaGreatDoorJRc
import Derived.Test.YtopblhmbjdfebaaGreatDoorJHp
import Derived.Test.YtopblhmbjdfebaaGreatDoorOwnV
import Derived.Laws.AppendOwnNone
import Derived.Test.YtopblhmbjdfebaaGreatDoorJEx
import Derived.Deep.RegionHeld3
import Derived.Test.YtopblhmbjdfebaaGreatDoorJRt
import Derived.Test.YtopblhmbjdfebaaGreatDoorStrEq
import Derived.Deep.QuietTactic
import Derived.Test.YtopblhmbjdfebaaGreatDoorJCh
import Derived.Test.YtopblhmbjdfebaaGreatDoorJRu
import Derived.Test.YtopblhmbjdfebaaGreatDoorProg
/-! 'append(v, y)' for rows of any struct, as a step of a region that draws its order. (Part of the proofs.) -/
namespace Go.Proofs.YtopblhmbjdfebaaGreatDoor
open Go.RowKit
set_option linter.unusedVariables false

section
variable {α : Type} {enc : α → List Value} {k T : Nat}
theorem Lst.lowB {w : World} {B B' : Nat} {v : Value} {l : List α} (h : Lst enc k T w B' v l) (hB : B ≤ B') : Lst enc k T w B v l := by
  refine ⟨h.1, ?_⟩
  rcases h.2 with h0 | ⟨g, cap, cur, hv, hb, h3⟩
  · exact .inl h0
  · exact .inr ⟨g, cap, cur, hv, Nat.le_trans hB hb, h3⟩
theorem step_append_lst {P : Program} {w : World} {ops : Array Oper} {o : Oper} {a : Act} {K : Act → World → Prop} {Q : Exit → Act → World → Prop} {E : Prop} (hgd : o.guard = none) (s x : Operand) (t : TypeId)
    (ho : o.op = .call { callee := .builtin .append, args := #[s, x], argTypes := #[t, t] }) (B : Nat) (i0 : TypeInfo) (z : Value) (bytes : Nat)
    (ht : P.underlying t = some (.slice T)) (hi : P.info? T = some i0) (hz : i0.zero = some z) (hsize : i0.size = k) (hby : i0.bytes = bytes) (hzs : z.cells.size = k) (hsz : 0 < k) (hbb : bytes ≤ 100)
    (v : Value) (l : List α) (hs : a.eval s = v) (hown : Lst enc k T w B v l) (g : Nat) (y : α) (hx : a.eval x = .slice (some ⟨g, 0, none⟩) 1 1)
    (hy : w.heap[g]? = some (.cells (enc y).toArray T (0, 0))) (hk : (enc y).length = k) (h1 : ∀ u ∈ enc y, u.oneCell' = true) (hn : l.length ≤ 1000) (hB : B ≤ w.heap.size)
    (h : ∀ g' cap w', Lst enc k T w' B (.slice (some ⟨g', 0, none⟩) (l.length + 1) cap) (l ++ [y]) → Below B w w' → (∀ j, j < w.heap.size → v.ownBlock ≠ some j → w'.heap[j]? = w.heap[j]?) → K (a.put o.dst (.slice (some ⟨g', 0, none⟩) (l.length + 1) cap)) w') :
    if Region.wanted o (yielded ops a.tmps) = true then Oper.wp P o a w K Q else E := by
  refine step_append_lies w hgd s x t ho B T i0 z k bytes ht hi hz hsize hby hzs hsz v l.length (l.flatMap enc) hs hown ⟨g, 0, none⟩ 1 1 (enc y) hx (by rw [hk, Nat.one_mul]) (World.news_of_block hy) h1 (by decide) (by unfold maxLen; omega) (Nat.le_trans (Nat.mul_le_mul (show l.length + 1 ≤ 1001 by omega) hbb) (by decide)) hB w.heap.size rfl ?_
  intro g' cap w' ho' hg' _ _
  refine h g' cap w' ?_ ((Below.refl _ _).grown hg' hB (fun k hk => hown.block k hk)) (fun j hj hne => hg'.block j hj (fun e => hne e.symm))
  unfold Lst
  rw [List.length_append, List.flatMap_append]
  simpa using ho'
end
end Go.Proofs.YtopblhmbjdfebaaGreatDoor
/-! Contracts of the reference's second part: Handle, Part, Free. (Part of the proofs over heaps.) -/
namespace Go.Proofs.YtopblhmbjdfebaaGreatDoor
open Go.RowKit
set_option linter.unusedVariables false

theorem sHandle_any (a : Option Addr) (cap : Nat) (L : List Int) (h : Int) (w : World) (hbs : Bs w a cap L) (hq : lenB L.length = true) :
    Calls Tryz.prog 25 #[.slice a L.length cap, .int .i64 h] w fun e w' => e = .returned (.int .i64 (chkE L h)) ∧ Below w.heap.size w w' := by
  have HH := hide (rHandle_any h w)
  have hl := lenB_iff.1 hq
  unfold chkE
  rw [if_neg (by rw [hq]; simp)]
  cases hn : hndB h with
  | false =>
    rw [hn] at HH
    rw [if_pos rfl]
    have hbl := hbs.2.2.1
    clear hbs hq hl hn
    generalize L.length = N at *
    go_enter Tryz.func25, Tryz.ntmps25
    go_wp2_with fail
    refine (unhide HH).mono ?_
    rintro e w1 ⟨rfl, hw⟩
    subst hw
    go_wp2
    go_ret
    exact ⟨rfl, Below.refl _ _⟩
  | true =>
    rw [hn] at HH
    rw [if_neg (by simp)]
    have hh := hndB_iff.1 hn
    have HE := hide (rEntry_any a cap L h w hbs (by omega) hh.1 hh.2)
    unfold entV at HE
    have hbl := hbs.2.2.1
    clear hbs hq hl hn hh
    generalize entOf L h = E at *
    obtain ⟨e1, e2, e3, e4⟩ := E
    dsimp only at HE
    generalize tagAt L h = t at *
    generalize L.length = N at *
    by_cases ht : t = 0
    · subst ht
      rw [if_pos rfl]
      go_enter Tryz.func25, Tryz.ntmps25
      go_wp2_with fail
      refine (unhide HH).mono ?_
      rintro e w1 ⟨rfl, hw⟩
      subst hw
      go_wp2_with fail
      refine (unhide HE).mono ?_
      rintro e w2 ⟨rfl, hb2⟩
      have HB := hide hb2
      clear hb2 HE
      go_wp2
      go_ret
      exact ⟨rfl, (unhide HB).alloc (unhide HB).size _⟩
    · rw [if_neg ht]
      rw [bne_iff_ne.2 ht] at HE
      clear ht
      go_enter Tryz.func25, Tryz.ntmps25
      go_wp2_with fail
      refine (unhide HH).mono ?_
      rintro e w1 ⟨rfl, hw⟩
      subst hw
      go_wp2_with fail
      refine (unhide HE).mono ?_
      rintro e w2 ⟨rfl, hb2⟩
      have HB := hide hb2
      clear hb2 HE
      go_wp2
      go_ret
      exact ⟨rfl, (unhide HB).alloc (unhide HB).size _⟩
/-- Where a part of an object begins in the image. -/
def ptAt (L : List Int) (h x n : Int) : Int := if pcE L h x n = 0 then (entOf L h).2.1 + x else 0
theorem sPart_any (a : Option Addr) (cap : Nat) (L : List Int) (h x n : Int) (w : World) (hbs : Bs w a cap L) (hf : Fine L) (hx : x ≤ 9223372036854775807) (hn : n ≤ 9223372036854775807) :
    Calls Tryz.prog 23 #[.slice a L.length cap, .int .i64 h, .int .i64 x, .int .i64 n] w fun e w' => e = .returned (.tuple #[.int .i64 (ptAt L h x n), .int .i64 (pcE L h x n)]) ∧ Below w.heap.size w w' := by
  have HH := hide (sHandle_any a cap L h w hbs hf.len0)
  have hbl := hbs.2.2.1
  have hl := hf.len
  by_cases hc : chkE L h = 0
  · obtain ⟨q1, q2, q3⟩ := chkE_zero.1 hc
    have q4 := hndB_iff.1 q2
    have hen := hf.ent q4.1 q4.2 q3
    have HE := hide (fun (W : World) (hW : Below w.heap.size w W) => rEntry_any a cap L h W (hbs.below hW) hl.1 q4.1 q4.2)
    have e1 : pcE L h x n = if x < 0 ∨ n < 0 ∨ (entOf L h).2.2.1 < x + n then 3 else 0 := by unfold pcE; rw [if_neg (fun h => h hc)]
    have e2 : ptAt L h x n = if x < 0 ∨ n < 0 ∨ (entOf L h).2.2.1 < x + n then 0 else (entOf L h).2.1 + x := by
      unfold ptAt
      rw [e1]
      split <;> simp_all
    rw [e1, e2]
    rw [hc] at HH
    rw [bne_iff_ne.2 q3] at HE
    unfold entV at HE
    clear hc q1 q2 q3 q4 hbs hf e1 e2
    generalize entOf L h = E at *
    obtain ⟨y1, y2, y3, y4⟩ := E
    dsimp only at HE hen ⊢
    generalize L.length = N at *
    obtain ⟨n1, n2, n3, n4, _, _⟩ := hen
    by_cases c1 : x < 0
    · rw [if_pos (.inl c1), if_pos (.inl c1)]
      go_enter Tryz.func23, Tryz.ntmps23
      go_wp2_with fail
      refine (unhide HH).mono ?_
      rintro e w1 ⟨rfl, hb1⟩
      have HE1 := hide (unhide HE w1 hb1)
      have HB1 := hide hb1
      clear hb1 HH HE
      go_wp2_with fail
      refine (unhide HE1).mono ?_
      rintro e w2 ⟨rfl, hb2⟩
      have HB2 := hide ((unhide HB1).trans (hb2.mono (unhide HB1).size))
      clear hb2 HE1 HB1
      go_wp2
      go_ret2
      exact ⟨rfl, (unhide HB2).alloc (unhide HB2).size _⟩
    by_cases c2 : n < 0
    · rw [if_pos (.inr (.inl c2)), if_pos (.inr (.inl c2))]
      go_enter Tryz.func23, Tryz.ntmps23
      go_wp2_with fail
      refine (unhide HH).mono ?_
      rintro e w1 ⟨rfl, hb1⟩
      have HE1 := hide (unhide HE w1 hb1)
      have HB1 := hide hb1
      clear hb1 HH HE
      go_wp2_with fail
      refine (unhide HE1).mono ?_
      rintro e w2 ⟨rfl, hb2⟩
      have HB2 := hide ((unhide HB1).trans (hb2.mono (unhide HB1).size))
      clear hb2 HE1 HB1
      go_wp2
      go_ret2
      exact ⟨rfl, (unhide HB2).alloc (unhide HB2).size _⟩
    by_cases c3 : y3 < x
    · have c5 : y3 < x + n := by omega
      rw [if_pos (.inr (.inr c5)), if_pos (.inr (.inr c5))]
      clear c5
      go_enter Tryz.func23, Tryz.ntmps23
      go_wp2_with fail
      refine (unhide HH).mono ?_
      rintro e w1 ⟨rfl, hb1⟩
      have HE1 := hide (unhide HE w1 hb1)
      have HB1 := hide hb1
      clear hb1 HH HE
      go_wp2_with fail
      refine (unhide HE1).mono ?_
      rintro e w2 ⟨rfl, hb2⟩
      have HB2 := hide ((unhide HB1).trans (hb2.mono (unhide HB1).size))
      clear hb2 HE1 HB1
      go_wp2
      go_ret2
      exact ⟨rfl, (unhide HB2).alloc (unhide HB2).size _⟩
    by_cases c4 : y3 - x < n
    · rw [if_pos (.inr (.inr (by omega))), if_pos (.inr (.inr (by omega)))]
      go_enter Tryz.func23, Tryz.ntmps23
      go_wp2_with fail
      refine (unhide HH).mono ?_
      rintro e w1 ⟨rfl, hb1⟩
      have HE1 := hide (unhide HE w1 hb1)
      have HB1 := hide hb1
      clear hb1 HH HE
      go_wp2_with fail
      refine (unhide HE1).mono ?_
      rintro e w2 ⟨rfl, hb2⟩
      have HB2 := hide ((unhide HB1).trans (hb2.mono (unhide HB1).size))
      clear hb2 HE1 HB1
      go_wp2
      go_ret2
      exact ⟨rfl, (unhide HB2).alloc (unhide HB2).size _⟩
    · rw [if_neg (by omega), if_neg (by omega)]
      go_enter Tryz.func23, Tryz.ntmps23
      go_wp2_with fail
      refine (unhide HH).mono ?_
      rintro e w1 ⟨rfl, hb1⟩
      have HE1 := hide (unhide HE w1 hb1)
      have HB1 := hide hb1
      clear hb1 HH HE
      go_wp2_with fail
      refine (unhide HE1).mono ?_
      rintro e w2 ⟨rfl, hb2⟩
      have HB2 := hide ((unhide HB1).trans (hb2.mono (unhide HB1).size))
      clear hb2 HE1 HB1
      go_wp2
      go_ret2
      exact ⟨rfl, (unhide HB2).alloc (unhide HB2).size _⟩
  · have e1 : pcE L h x n = chkE L h := by unfold pcE; rw [if_pos hc]
    have e2 : ptAt L h x n = 0 := by unfold ptAt; rw [e1, if_neg hc]
    rw [e1, e2]
    have hcb : (chkE L h == 0) = false := beq_eq_false_iff_ne.2 hc
    clear hbs hf e1 e2
    generalize chkE L h = X at *
    generalize L.length = N at *
    go_enter Tryz.func23, Tryz.ntmps23
    go_wp2_with fail
    refine (unhide HH).mono ?_
    rintro e w1 ⟨rfl, hb1⟩
    have HB1 := hide hb1
    clear hb1 HH
    go_wp2
    go_ret2
    exact ⟨rfl, unhide HB1⟩
/-! ### Free -/
theorem plc_mul {h : Int} (h1 : 1 ≤ h) : ((plc h : Nat) : Int) = 5 * (h - 1) := by unfold plc; omega
set_option maxHeartbeats 1000000 in
theorem sFree_any (a : Option Addr) (cap : Nat) (L : List Int) (h : Int) (w : World) (hbs : Bs w a cap L) (hf : Fine L) :
    Calls Tryz.prog 11 #[.slice a L.length cap, .int .i64 h] w fun e w' => ∃ a' c', e = .returned (.tuple #[.slice a' (if frE L h = 0 then frB L h else []).length c', .int .i64 (frE L h)]) ∧ Bs w' a' c' (if frE L h = 0 then frB L h else []) ∧ Below w.heap.size w w' ∧ Fr w.heap.size a' := by
  have HH := hide (sHandle_any a cap L h w hbs hf.len0)
  have hbl := hbs.2.2.1
  have hl := hf.len
  by_cases hc : chkE L h = 0
  · obtain ⟨q1, q2, q3⟩ := chkE_zero.1 hc
    have q4 := hndB_iff.1 q2
    have hp := plc_le q4.1 q4.2
    have hpm := plc_mul q4.1
    have HR := hide (fun (W : World) (hW : Below w.heap.size w W) => rRoots_any a cap L W (hbs.below hW) hl.1 hl.2)
    have HW := hide (fun (W : World) (hW : Below w.heap.size w W) => rWipe_any a cap L (plc h) 5 W (hbs.below hW) (by omega) hl.2 (by omega))
    rw [hpm] at HW
    have hrl := rootsK_len L 8
    have HBY := hide hbs.1
    have hD : dropL L h = splice L (plc h) (zerosB 5) := by unfold dropL; rw [if_pos hc]
    have hDl : (dropL L h).length = L.length := by rw [hD, length_splice (by rw [length_zerosB]; omega)]
    rw [← hD] at HW
    rw [hc] at HH
    have HYES : Hid ((rootsK L 8).any (fun r => r.2 == h) = true → frE L h = 7 ∧ (if frE L h = 0 then frB L h else []) = []) := hide (fun e => by
      have e1 : frE L h = 7 := by unfold frE; rw [if_neg (fun h => h hc), if_pos e]
      exact ⟨e1, by rw [e1]; rfl⟩)
    have HNO : Hid ((rootsK L 8).any (fun r => r.2 == h) = false → frE L h = 0 ∧ (if frE L h = 0 then frB L h else []) = dropL L h) := hide (fun e => by
      have e1 : frE L h = 0 := frE_zero.2 ⟨hc, e⟩
      exact ⟨e1, by rw [if_pos e1]; unfold frB; rw [if_pos e1]⟩)
    have HDL := hide hDl
    have HBD := hide (byt_drop hbs.1 h)
    clear hbs hf hc q1 q2 q3 hp hpm hD hDl
    obtain ⟨h1, h2⟩ := q4
    generalize (if frE L h = 0 then frB L h else []) = FB at *
    generalize frE L h = FE at *
    generalize dropL L h = D at *
    generalize rootsK L 8 = R at *
    generalize hN : L.length = N at *
    have HN := hide hN
    clear hN
    go_enter Tryz.func11, Tryz.ntmps11
    go_wp2_with fail
    refine (unhide HH).mono ?_
    rintro e w1 ⟨rfl, hb1⟩
    have HR1 := hide (unhide HR w1 hb1)
    have HB1 := hide hb1
    clear hb1 HH HR
    go_wp2_with fail
    refine (unhide HR1).mono ?_
    rintro e w2 ⟨v2, rfl, hown2, hb2⟩
    obtain ⟨a2, c2, rfl, hsl2⟩ := hown2.sls roC_len (by omega)
    have HSL := hide hsl2
    have hB2 := (unhide HB1).trans (hb2.mono (unhide HB1).size)
    have HW2 := hide (unhide HW w2 hB2)
    have HB2 := hide hB2
    clear hown2 hsl2 hb2 hB2 HR1 HB1 HW
    go_wp2_with fail
    go_loop [8] (fun iv => ∃ k : Nat, k ≤ R.length ∧ iv = .int .i64 k ∧ (R.take k).any (fun r => r.2 == h) = false) (fun iv => R.length - (intOf iv).toNat)
    case atStart => exact ⟨0, Nat.zero_le _, rfl, rfl⟩
    case round =>
      obtain ⟨k, hk, rfl, hall⟩ := hrel
      by_cases hlt : k < R.length
      · have hne : R ≠ [] := by intro e; rw [e] at hlt; simp at hlt
        obtain ⟨b1, o1, rfl, hc1⟩ := (unhide HSL).2.2.2 hne
        obtain ⟨f, hf⟩ : ∃ f, R[k]? = some f := ⟨R[k], List.getElem?_eq_getElem hlt⟩
        obtain ⟨q0, q1⟩ := Sls.root (cap := 0) hc1 hf
        obtain ⟨s, x⟩ := f
        have htk : R.take (k + 1) = R.take k ++ [(s, x)] := by rw [List.take_add_one, hf]; rfl
        have HTK := hide htk
        have HALL := hide hall
        have HMEM := hide (List.mem_of_getElem? hf)
        dsimp only at *
        clear hc1 hf hne hall htk
        cases hx : (x == h)
        · have hnew : (R.take (k + 1)).any (fun r => r.2 == h) = false := by rw [unhide HTK, List.any_append, unhide HALL]; simp [hx]
          have HNEW := hide hnew
          clear hnew
          go_wp2
          go_round
          case rel => exact ⟨k + 1, by omega, by go_num, unhide HNEW⟩
          case measure => simp [intOf]; omega
        · have hnew : R.any (fun r => r.2 == h) = true := List.any_eq_true.2 ⟨_, unhide HMEM, hx⟩
          obtain ⟨e1, e2⟩ := unhide HYES hnew
          have HE1 := hide e1
          have HE2 := hide e2
          clear hnew e1 e2 HYES HNO HTK HALL HMEM
          go_wp2
          go_ret2
          refine ⟨none, 0, by rw [unhide HE2, unhide HE1]; rfl, ?_, unhide HB2, Fr.nil _⟩
          rw [unhide HE2]
          exact bs_nil _
      · obtain rfl : k = R.length := by omega
        rw [List.take_length] at hall
        obtain ⟨e1, e2⟩ := unhide HNO hall
        have HE1 := hide e1
        have HE2 := hide e2
        clear hall e1 e2 HYES HNO HSL
        go_wp2_with fail
        refine (unhide HW2).mono ?_
        rintro e w3 ⟨g, c, rfl, ho, hb3⟩
        have HB3 := hide ((unhide HB2).trans (hb3.mono (unhide HB2).size))
        have HFR := hide (Nat.le_trans (unhide HB2).size ho.base)
        have HO := hide (ho.bs (unhide HBD) (by rw [unhide HDL]; omega))
        clear ho hb3 HW2 HB2
        go_wp2
        go_ret2
        refine ⟨some ⟨g, 0, none⟩, c, by rw [unhide HE2, unhide HE1, unhide HDL]; rfl, ?_, unhide HB3, Fr.at (unhide HFR)⟩
        rw [unhide HE2]
        exact unhide HO
  · have e1 : frE L h = chkE L h := by unfold frE; rw [if_pos hc]
    rw [e1, if_neg hc]
    have hcb : (chkE L h == 0) = false := beq_eq_false_iff_ne.2 hc
    clear hbs hf e1
    generalize chkE L h = X at *
    generalize L.length = N at *
    go_enter Tryz.func11, Tryz.ntmps11
    go_wp2_with fail
    refine (unhide HH).mono ?_
    rintro e w1 ⟨rfl, hb1⟩
    have HB1 := hide hb1
    clear hb1 HH
    go_wp2
    go_ret2
    exact ⟨none, 0, rfl, bs_nil _, unhide HB1, Fr.nil _⟩
end Go.Proofs.YtopblhmbjdfebaaGreatDoor
/-! 'append(v, l...)' of bytes, for every l. (Part of the proofs.) -/
namespace Go.Proofs.YtopblhmbjdfebaaGreatDoor
open Go.RowKit
set_option linter.unusedVariables false

theorem wpList_append_bs {P : Program} {w : World} {ops : Array Oper} {rest : List Oper} {o : Oper} {a : Act} {Q : Exit → Act → World → Prop} (hgd : o.guard = none) (s x : Operand) (t : TypeId)
    (ho : o.op = .call { callee := .builtin .append, args := #[s, x], argTypes := #[t, t] }) (i : TypeInfo) (ht : P.underlying t = some (.slice 5)) (hi : P.info? 5 = some i) (hz : i.zero = some (.int .u8 0)) (h4 : i.size = 1) (h5 : i.bytes = 1)
    (B : Nat) (v : Value) (L : List Int) (hs : a.eval s = v) (hown : OwnV w B v L) (hB : B ≤ w.heap.size) (sp : Option Addr) (n cap : Nat) (l : List Int) (hx : a.eval x = .slice sp n cap) (hn : n = l.length) (hb : Bs w sp cap l) (hL : L.length + l.length ≤ 140737488351232)
    (h : ∀ v' w', OwnV w' B v' (L ++ l) → Below B w w' → wpList P ops Q rest (a.put o.dst v') w') :
    wpList P ops Q (o :: rest) a w := by
  subst hn
  have fin : ∀ v' w', w'.ownsRow B 5 1 v' (L.length + l.length) (L.map (Value.int .u8) ++ l.map (Value.int .u8)) → w.grownBy w' v.ownBlock → wpList P ops Q rest (a.put o.dst v') w' := fun v' w' ho' hg' => by
    refine h v' w' ?_ ((Below.refl _ _).grown hg' hB (fun k hk => hown.block k hk))
    unfold OwnV
    rw [List.length_append, List.map_append]
    exact ho'
  by_cases h0 : l = []
  · subst h0
    cases sp with
    | none =>
      have hc : cap = 0 := hb.2.2.2.1 rfl
      subst hc
      refine wpList_append_own_none hgd s x t ho B 5 i 1 ht hi v _ _ hs hown hx ?_
      exact h v w (by rw [List.append_nil]; exact hown) (Below.refl _ _)
    | some y =>
      exact wpList_append_own w hgd s x t ho B 5 i (.int .u8 0) 1 1 ht hi hz h4 h5 rfl (by decide) v _ _ hs hown y 0 cap [] hx (by simp) (fun j u hj => by simp at hj) (fun u hu => by cases hu) (by unfold maxLen; simp at hL; omega) (by simp at hL; omega) hB (fun v' w' ho' hg' _ => fin v' w' ho' hg')
  · obtain ⟨b, off, rfl, hc⟩ := hb.2.2.2.2 h0
    exact wpList_append_own w hgd s x t ho B 5 i (.int .u8 0) 1 1 ht hi hz h4 h5 rfl (by decide) v _ _ hs hown ⟨b, off, none⟩ l.length cap (l.map (Value.int .u8)) hx (by simp) (news_bs hb) (oneCell_u8 l) (by unfold maxLen; omega) (by omega) hB (fun v' w' ho' hg' _ => fin v' w' ho' hg')
end Go.Proofs.YtopblhmbjdfebaaGreatDoor
/-! Contracts of the reference's second part: Write. (Part of the proofs over heaps.) -/
namespace Go.Proofs.YtopblhmbjdfebaaGreatDoor
open Go.RowKit
set_option linter.unusedVariables false

theorem splice_parts {L l : List Int} {k : Nat} : L.take k ++ (l ++ L.drop (k + l.length)) = splice L k l := rfl
set_option maxRecDepth 100000 in
set_option maxHeartbeats 1000000 in
theorem sWrite_any (a : Option Addr) (cap : Nat) (L : List Int) (h x : Int) (ab : Option Addr) (cb : Nat) (l : List Int) (w : World) (hbs : Bs w a cap L) (hbl : Bs w ab cb l) (hf : Fine L) (hx : x ≤ 9223372036854775807) :
    Calls Tryz.prog 13 #[.slice a L.length cap, .int .i64 h, .int .i64 x, .slice ab l.length cb] w fun e w' => ∃ a' c', e = .returned (.tuple #[.slice a' (if pcE L h x l.length = 0 then wrB L h x l else []).length c', .int .i64 (pcE L h x l.length)]) ∧ Bs w' a' c' (if pcE L h x l.length = 0 then wrB L h x l else []) ∧ Below w.heap.size w w' ∧ Fr w.heap.size a' := by
  obtain ⟨i0, hi, hz0, hz1, hz2⟩ := info_parts info_u8
  have hll := hbl.2.2.1
  have hLl := hbs.2.2.1
  have HP := hide (sPart_any a cap L h x l.length w hbs hf hx (by omega))
  have hl := hf.len
  by_cases h0 : pcE L h x l.length = 0
  · obtain ⟨h1, h2, h3, h4⟩ := pcE_zero.1 h0
    obtain ⟨X, rfl⟩ := Int.eq_ofNat_of_zero_le h2
    obtain ⟨q1, q2, q3⟩ := chkE_zero.1 h1
    have q4 := hndB_iff.1 q2
    have hen := hf.ent q4.1 q4.2 q3
    have ept : ptAt L h X l.length = (((entOf L h).2.1.toNat + X : Nat) : Int) := by unfold ptAt; rw [if_pos h0]; omega
    have eW : wrB L h X l = splice L ((entOf L h).2.1.toNat + X) l := by unfold wrB; rw [if_pos h0, Int.toNat_natCast]
    have hfit : (entOf L h).2.1.toNat + X + l.length ≤ L.length := by omega
    rw [h0, ept] at HP
    rw [h0, if_pos rfl, eW]
    clear h0 h1 h2 h3 h4 q1 q2 q3 q4 ept eW hen
    generalize (entOf L h).2.1.toNat + X = K at *
    obtain ⟨s1, hs1, hb1⟩ := slice_hi (P := Tryz.prog) (t := 22) Tryz.underlying22 size_u8 hbs K (by omega)
    obtain ⟨s2, hs2, hb2⟩ := slice_lo (P := Tryz.prog) (t := 22) Tryz.underlying22 size_u8 hbs (K + l.length) (by omega)
    rw [show ((K + l.length : Nat) : Int) = (K : Int) + (l.length : Int) by omega] at hs2
    have hk1 : (L.take K).length = K := by rw [List.length_take]; omega
    have hk2 : (L.drop (K + l.length)).length = L.length - (K + l.length) := by simp
    have hsp := length_splice hfit
    have HSP := hide (splice_parts (L := L) (l := l) (k := K))
    have HBY := hide (byt_splice (off := K) hbs.1 hbl.1)
    have HB1 := hide hb1
    have HB2 := hide hb2
    have HBL := hide hbl
    have HK1 := hide hk1
    have HK2 := hide hk2
    have HLS := hide hsp
    clear hbs hbl hf hb1 hb2 hk1 hk2 hsp hx
    generalize hN : L.length = N at *
    have HN := hide hN
    clear hN
    generalize L.take K = T1 at *
    generalize L.drop (K + l.length) = T2 at *
    generalize splice L K l = SP at *
    generalize cap - (K + l.length) = cap2 at *
    generalize hD : N - (K + l.length) = D at *
    have HD := hide hD
    clear hD
    generalize hM : l.length = M at *
    have HM := hide hM
    clear hM
    go_enter Tryz.func13, Tryz.ntmps13
    go_wp2_with fail
    refine (unhide HP).mono ?_
    rintro e w1 ⟨rfl, hb1⟩
    have HBW := hide hb1
    clear hb1 HP
    go_wp2_with (at_builtin; refine wpList_append_bs rfl _ _ 22 rfl i0 Tryz.underlying22 hi hz0 hz1 hz2 w1.heap.size (.slice none 0 0) [] rfl (OwnV.nil _ _) (Nat.le_refl _) s1 K cap T1 rfl (unhide HK1).symm ((unhide HB1).below (unhide HBW)) (by rw [unhide HK1]; simp; omega) ?_)
    intro v2 w2 ho2 hb2
    obtain ⟨a2, c2, rfl⟩ := OwnV.shape (L := T1) ho2
    have HO2 : Hid (OwnV w2 w1.heap.size (.slice a2 K c2) T1) := hide (by rw [unhide HK1] at ho2; exact ho2)
    have hB2 := (unhide HBW).trans (hb2.mono (unhide HBW).size)
    have HBL2 := hide ((unhide HBL).below hB2)
    have HBW2 := hide hB2
    have hsz2 := hb2.size
    have hsz1 := (unhide HBW).size
    clear ho2 hb2 hB2 HB1 HBL
    rw [unhide HK1]
    go_wp2_with (at_builtin; refine wpList_append_bs rfl _ _ 22 rfl i0 Tryz.underlying22 hi hz0 hz1 hz2 w1.heap.size _ T1 rfl (unhide HO2) hsz2 ab M cb l rfl (unhide HM).symm (unhide HBL2) (by rw [unhide HK1, unhide HM]; omega) ?_)
    intro v3 w3 ho3 hb3
    obtain ⟨a3, c3, rfl⟩ := ho3.shape
    have hl3 : (T1 ++ l).length = K + M := by rw [List.length_append, unhide HK1, unhide HM]
    rw [hl3] at ho3 ⊢
    have HO3 := hide ho3
    have HL3 := hide hl3
    have hB3 := (unhide HBW2).trans (hb3.mono hsz1)
    have HB23 := hide ((unhide HB2).below hB3)
    have HBW3 := hide hB3
    have hsz3 := Nat.le_trans hsz2 hb3.size
    clear ho3 hb3 hB3 HB2 HBL2 HBW2 HO2 hl3
    go_wp2_with (at_builtin; refine wpList_append_bs rfl _ _ 22 rfl i0 Tryz.underlying22 hi hz0 hz1 hz2 w1.heap.size _ (T1 ++ l) rfl (unhide HO3) hsz3 s2 D cap2 T2 rfl (unhide HK2).symm (unhide HB23) (by rw [unhide HL3, unhide HK2]; have := unhide HD; omega) ?_)
    intro v4 w4 ho4 hb4
    rw [unhide HSP] at ho4
    obtain ⟨a4, c4, rfl⟩ := ho4.shape
    obtain ⟨a4', c4', e4, hbs4⟩ := ho4.bs (unhide HBY) (by rw [unhide HLS]; omega)
    simp only [Value.slice.injEq, true_and] at e4
    obtain ⟨rfl, rfl⟩ := e4
    have HBS4 := hide hbs4
    have HFR := hide ((Fr.ownV ho4).mono hsz1)
    have HBW4 := hide ((unhide HBW3).trans (hb4.mono hsz1))
    clear ho4 hb4 hbs4 HB23 HBW3 HO3
    rw [unhide HLS]
    go_wp2
    go_ret2
    exact ⟨a4, c4, by rw [unhide HLS]; rfl, unhide HBS4, unhide HBW4, unhide HFR⟩
  · rw [if_neg h0]
    have e2 : ptAt L h x l.length = 0 := by unfold ptAt; rw [if_neg h0]
    rw [e2] at HP
    have hcb : (pcE L h x l.length == 0) = false := beq_eq_false_iff_ne.2 h0
    clear hbs hbl hf e2 h0
    generalize pcE L h x l.length = X at *
    generalize L.length = N at *
    generalize l.length = M at *
    go_enter Tryz.func13, Tryz.ntmps13
    go_wp2_with fail
    refine (unhide HP).mono ?_
    rintro e w1 ⟨rfl, hb1⟩
    have HB1 := hide hb1
    clear hb1 HP
    go_wp2
    go_ret2
    exact ⟨none, 0, rfl, bs_nil _, unhide HB1, Fr.nil _⟩
end Go.Proofs.YtopblhmbjdfebaaGreatDoor
/-! Contracts of the reference's second part: Taken, Alloc. (Part of the proofs over heaps.) -/
namespace Go.Proofs.YtopblhmbjdfebaaGreatDoor
open Go.RowKit
set_option linter.unusedVariables false

theorem info_exS : (Tryz.prog.info? 64).map (fun i => (i.zero, i.size, i.bytes)) = some (some (.agg #[.int .i64 0, .int .i64 0]), 2, 16) := by kernel_rfl
theorem exT_one (e : Int × Int) : ∀ u ∈ exC e, u.oneCell' = true := by
  intro u hu
  unfold exC at hu
  rcases List.mem_cons.1 hu with rfl | hu
  · rfl
  rw [List.mem_singleton.1 hu]
  rfl
theorem sh_takeS {l : List (Int × Int × Int × Int)} {k : Nat} {e : (Int × Int × Int × Int)} (h : l[k]? = some e) : (l.map shE).take (k + 1) = (l.map shE).take k ++ [(e.2.1 - 288, e.2.2.1)] := by
  rw [List.take_add_one, List.getElem?_map, h]
  rfl
theorem step_append_ex {w : World} {ops : Array Oper} {o : Oper} {a : Act} {K : Act → World → Prop} {Q : Exit → Act → World → Prop} {E : Prop} (hgd : o.guard = none) (s x : Operand)
    (ho : o.op = .call { callee := .builtin .append, args := #[s, x], argTypes := #[82, 82] }) (B : Nat) (v : Value) (l : List (Int × Int)) (hs : a.eval s = v) (hown : Lst exC 2 64 w B v l) (g : Nat) (y : Int × Int)
    (hx : a.eval x = .slice (some ⟨g, 0, none⟩) 1 1) (hy : w.heap[g]? = some (.cells (exC y).toArray 64 (0, 0))) (hn : l.length ≤ 1000) (hB : B ≤ w.heap.size)
    (h : ∀ g' cap w', Lst exC 2 64 w' B (.slice (some ⟨g', 0, none⟩) (l.length + 1) cap) (l ++ [y]) → Below B w w' → (∀ j, j < w.heap.size → v.ownBlock ≠ some j → w'.heap[j]? = w.heap[j]?) → K (a.put o.dst (.slice (some ⟨g', 0, none⟩) (l.length + 1) cap)) w') :
    if Region.wanted o (yielded ops a.tmps) = true then Oper.wp Tryz.prog o a w K Q else E := by
  obtain ⟨i0, hi0, hz0, hz1, hz2⟩ := info_parts info_exS
  exact step_append_lst hgd s x 82 ho B i0 (.agg #[.int .i64 0, .int .i64 0]) 16 Tryz.underlying82 hi0 hz0 hz1 hz2 rfl (by decide) (by decide) v l hs hown g y hx hy rfl (exT_one _) hn hB h
set_option maxRecDepth 100000 in
set_option maxHeartbeats 4000000 in
theorem sTaken_any (a : Option Addr) (cap : Nat) (L : List Int) (w : World) (hbs : Bs w a cap L) (hf : Fine L) :
    Calls Tryz.prog 36 #[.slice a L.length cap] w fun e w' => ∃ v, e = .returned v ∧ Lst exC 2 64 w' w.heap.size v (takeL L) ∧ Below w.heap.size w w' := by
  obtain ⟨i0, hi0, hz0, hz1, hz2⟩ := info_parts info_exS
  have HE := hide (rEnts_any a cap L w hbs hf.len.1)
  have hbl := hbs.2.2.1
  have HIN := hide (ents_in hf)
  have hel := entsK_len L 40
  have HTL : Hid ((entsK L 40).map shE = takeL L) := hide rfl
  clear hbs hf
  generalize takeL L = TL at *
  generalize entsK L 40 = l at *
  generalize L.length = N at *
  go_enter Tryz.func36, Tryz.ntmps36
  go_wp2_with fail
  refine (unhide HE).mono ?_
  rintro e w1 ⟨v1, rfl, hown1, hb1⟩
  obtain ⟨a1, c1, rfl, hsl1⟩ := hown1.sls enC_len (by omega)
  have HS := hide hsl1
  have HB1 := hide hb1
  have hcap := hsl1.2.2.1
  clear hown1 hsl1 hb1 HE
  go_wp2_with fail
  go_loopw [3, 5] (fun v iv wr => ∃ k : Nat, k ≤ l.length ∧ iv = .int .i64 k ∧ Lst exC 2 64 wr w1.heap.size v ((l.map shE).take k) ∧ Below w1.heap.size w1 wr) (fun _ iv _ => l.length - (intOf iv).toNat)
  case atStart => exact ⟨0, Nat.zero_le _, rfl, Lst.nil _ _, Below.refl _ _⟩
  case round =>
    obtain ⟨k, hk, rfl, hown, hbel⟩ := hrel
    obtain ⟨va, vm, vc, rfl⟩ := hown.shape
    by_cases hlt : k < l.length
    · have hne : l ≠ [] := by intro e; rw [e] at hlt; simp at hlt
      obtain ⟨b1, o1, rfl, hc1⟩ := ((unhide HS).below hbel).2.2.2 hne
      obtain ⟨f, hf⟩ : ∃ f, l[k]? = some f := ⟨l[k], List.getElem?_eq_getElem hlt⟩
      obtain ⟨q0, q1, q2, q3⟩ := Sls.ent (cap := 0) hc1 hf
      have HT := hide (sh_takeS hf)
      have hfi := unhide HIN f (List.mem_of_getElem? hf)
      have hml : ((l.map shE).take k).length ≤ 40 := by simp; omega
      obtain ⟨x, y, z, t⟩ := f
      dsimp only at *
      have hwr : IntKind.i64.wrap (y - 288) = y - 288 := by rw [IntKind.wrap_i64]; omega
      have HWR := hide hwr
      clear hwr
      have hsz := hbel.size
      have hbd := below_drew (Below.refl wr.heap.size wr)
      have HO3 := hide ((hown.below hbd).below ((Below.refl _ wr.drew).alloc (Nat.le_refl _) (.cells #[.int .i64 (IntKind.i64.wrap (y - 288)), .int .i64 z] 64)))
      have HGN : Hid ((wr.drew.alloc (.cells #[.int .i64 (IntKind.i64.wrap (y - 288)), .int .i64 z] 64)).heap[wr.heap.size]? = some (.cells (exC (IntKind.i64.wrap (y - 288), z)).toArray 64 (0, 0))) := hide (heap_alloc_new wr.drew _)
      have HBE := hide hbel
      have hblk : ∀ g, (Value.slice va vm vc).ownBlock = some g → w1.heap.size ≤ g := hown.block
      have hb1lt : b1 < w1.heap.size := by
        obtain ⟨b2, o2, e2, hc2⟩ := (unhide HS).2.2.2 hne
        simp only [Option.some.injEq, Addr.mk.injEq, and_true] at e2
        obtain ⟨rfl, rfl⟩ := e2
        exact block_lt_of_cell (Sls.ent (cap := 0) hc2 hf).1
      clear hc1 hf hne hbel hown
      have hnb : (Value.slice va vm vc).ownBlock ≠ some b1 := fun e => by have := hblk b1 e; omega
      have hq1 : (wr.drew.alloc (.cells #[.int .i64 (IntKind.i64.wrap (y - 288)), .int .i64 z] 64)).cell? ⟨b1, o1 + k * 4 + 1, none⟩ = some (.int .i64 y) := (((Below.refl wr.drew.heap.size wr.drew).alloc (Nat.le_refl _) _).cell (p := ⟨b1, o1 + k * 4 + 1, none⟩) (block_lt_of_cell q1)).trans q1
      have hq2 : (wr.drew.alloc (.cells #[.int .i64 (IntKind.i64.wrap (y - 288)), .int .i64 z] 64)).cell? ⟨b1, o1 + k * 4 + 2, none⟩ = some (.int .i64 z) := (((Below.refl wr.drew.heap.size wr.drew).alloc (Nat.le_refl _) _).cell (p := ⟨b1, o1 + k * 4 + 2, none⟩) (block_lt_of_cell q2)).trans q2
      have hb1w : b1 < (wr.drew.alloc (.cells #[.int .i64 (IntKind.i64.wrap (y - 288)), .int .i64 z] 64)).heap.size := block_lt_of_cell hq1
      have HQ1 := hide hq1
      have HQ2 := hide hq2
      clear hq1 hq2
      go_wp2_with fail
      go_region_held3 (fun w' => w'.cell? ⟨b1, o1 + k * 4 + 1, none⟩ = some (.int .i64 y) ∧ w'.cell? ⟨b1, o1 + k * 4 + 2, none⟩ = some (.int .i64 z)) (first | go_keep | (go_split_ands; refine ⟨?_, ?_⟩ <;> go_keep))
        ((refine step_append_ex (by rfl) (.tmp 14) (.tmp 29) (by rfl) w1.heap.size _ ((l.map shE).take k) (by rfl) (unhide HO3) wr.heap.size (IntKind.i64.wrap (y - 288), z) (by rfl) (unhide HGN) (by omega) (by simp; omega) ?_; intro g9 c9 w9 hown9 hb9 hk9; have r1 := (World.cell?_of_block (a := ⟨b1, o1 + k * 4 + 1, none⟩) (hk9 b1 hb1w hnb)).trans (unhide HQ1); have r2 := (World.cell?_of_block (a := ⟨b1, o1 + k * 4 + 2, none⟩) (hk9 b1 hb1w hnb)).trans (unhide HQ2)))
      rw [unhide HWR, ← unhide HT] at hown9
      have HO9 := hide hown9
      have HB9 := hide ((unhide HBE).trans (((below_drew (Below.refl wr.heap.size wr)).alloc (Nat.le_refl _) _).mono hsz |>.trans hb9))
      clear hown9 hb9 hk9 r1 r2 HO3 HGN HQ1 HQ2 q0 q1 q2 q3
      go_wp2
      go_roundw
      case rel => exact ⟨k + 1, by omega, by go_num, by simpa [Nat.min_eq_left (Nat.le_of_lt hlt)] using unhide HO9, unhide HB9⟩
      case measure => simp [intOf]; omega
    · obtain rfl : k = l.length := by omega
      rw [List.take_of_length_le (by simp), unhide HTL] at hown
      have HO := hide (hown.lowB (unhide HB1).size)
      have HB := hide ((unhide HB1).trans (hbel.mono (unhide HB1).size))
      clear hown hbel
      go_wp2
      go_ret
      exact ⟨_, rfl, unhide HO, unhide HB⟩
end Go.Proofs.YtopblhmbjdfebaaGreatDoor
/-! Contracts of the reference's second part: Alloc. (Part of the proofs over heaps.) -/
namespace Go.Proofs.YtopblhmbjdfebaaGreatDoor
open Go.RowKit
set_option linter.unusedVariables false

/-- What the reference's Fit says of an image that is right. -/
def fitN (L : List Int) (n : Int) : Int := ((freeL ((L.length : Int) - 288) (takeL L)).foldl (fitR n) (-1, 0)).1
theorem fitN_spec {L : List Int} (hf : Fine L) {n : Int} (h1 : 1 ≤ n) (h2 : n ≤ 1000) : (fitE ((L.length : Int) - 288) (takeL L) n = 4 ∧ fitN L n < 0) ∨ (fitE ((L.length : Int) - 288) (takeL L) n = 0 ∧ fitN L n = fitAt ((L.length : Int) - 288) (takeL L) n ∧ 0 ≤ fitN L n) := by
  have hfr := (freeL_small (take_chk hf)).1
  have hE := fitE_fine hf h1 (show n ≤ 6400 by omega)
  have hfl : freeL ((L.length : Int) - 288) (takeL L) = freeOf ((L.length : Int) - 288) (srtL (takeL L)) := by unfold freeL; rw [if_pos (take_chk hf)]
  unfold fitN
  rcases fitR_spec (size := n) (h := freeL ((L.length : Int) - 288) (takeL L)) (fun r hr => ⟨(hfr r hr).1, (hfr r hr).2.1⟩) with ⟨h3, h4⟩ | ⟨h3, h4, h5⟩
  · left
    rw [hfl] at h3
    rw [hE, if_pos h3]
    exact ⟨rfl, h4⟩
  · right
    rw [hfl] at h5
    have h0 : fitE ((L.length : Int) - 288) (takeL L) n = 0 := by rw [hE, if_neg (by omega)]
    refine ⟨h0, ?_, ?_⟩
    · rw [h3, fitAt_fine hf h1 (by omega) h0, hfl]
    · rw [h3]; exact h4
theorem sAlloc_range (a : Option Addr) (len cap : Nat) (n t : Int) (w : World) (hbad : n < 1 ∨ 1000 < n ∨ t < 0 ∨ 15 < t) :
    Calls Tryz.prog 9 #[.slice a len cap, .int .i64 n, .int .i64 t] w fun e w' => e = .returned (.tuple #[.slice none 0 0, .int .i64 0, .int .i64 1]) ∧ w = w' := by
  by_cases c1 : n < 1
  · clear hbad
    go_enter Tryz.func9, Tryz.ntmps9
    go_wp2
    go_ret3
    exact ⟨rfl, rfl⟩
  by_cases c2 : 1000 < n
  · clear hbad
    go_enter Tryz.func9, Tryz.ntmps9
    go_wp2
    go_ret3
    exact ⟨rfl, rfl⟩
  by_cases c3 : t < 0
  · clear hbad
    go_enter Tryz.func9, Tryz.ntmps9
    go_wp2
    go_ret3
    exact ⟨rfl, rfl⟩
  have c4 : 15 < t := by omega
  clear hbad
  go_enter Tryz.func9, Tryz.ntmps9
  go_wp2
  go_ret3
  exact ⟨rfl, rfl⟩
/-- What comes of the least handle and of the place. -/
def AlCase (L : List Int) (N : Nat) (t : Int) (low : Nat) (F AE AH : Int) (R : List Int) : Prop :=
  (low = 40 ∧ AE = 4 ∧ AH = 0 ∧ R = []) ∨ (low < 40 ∧ F < 0 ∧ AE = 4 ∧ AH = 0 ∧ R = []) ∨
  (low < 40 ∧ ∃ x : Nat, F + 288 = x ∧ 0 ≤ F ∧ AE = 0 ∧ AH = (low : Int) + 1 ∧ putE L ((low : Int) + 1, (x : Int), (N : Int), t) = 0 ∧ x + N ≤ L.length ∧ R = splice (putL L ((low : Int) + 1, (x : Int), (N : Int), t)) x (zerosB N))
theorem al_case {L : List Int} (hf : Fine L) {N : Nat} {t : Int} (n1 : 1 ≤ N) (n2 : N ≤ 1000) (t1 : 0 ≤ t) (t2 : t ≤ 15) : AlCase L N t (lowH L) (fitN L N) (alE L N t) (alH L N t) (if alE L N t = 0 then alB L N t else []) := by
  have hE : alE L N t = if lowH L = 40 then 4 else fitE ((L.length : Int) - 288) (takeL L) N := by unfold alE; rw [if_neg (by omega)]
  have h40 := lowH_le L
  by_cases hlow : lowH L = 40
  · rw [if_pos hlow] at hE
    left
    refine ⟨hlow, hE, ?_, ?_⟩
    · unfold alH; rw [hE]; rfl
    · rw [hE]; rfl
  · rw [if_neg hlow] at hE
    right
    rcases fitN_spec hf (n := N) (by omega) (by omega) with ⟨e1, e2⟩ | ⟨e1, e2, e3⟩
    · left
      rw [e1] at hE
      refine ⟨by omega, e2, hE, ?_, ?_⟩
      · unfold alH; rw [hE]; rfl
      · rw [hE]; rfl
    · right
      rw [e1] at hE
      obtain ⟨x, M, hk⟩ := al_ok hf hE
      have hM : M = N := by have := hk.eqn; omega
      subst hM
      refine ⟨by omega, x, by have := hk.eqx; omega, e3, hE, ?_, hk.put hf, hk.x2, ?_⟩
      · unfold alH; rw [if_pos hE]
      · rw [if_pos hE]; exact (hk.lay hf hE).symm
set_option maxRecDepth 100000 in
set_option maxHeartbeats 4000000 in
theorem sAlloc_go (a : Option Addr) (cap : Nat) (L : List Int) (N : Nat) (t : Int) (w : World) (hbs : Bs w a cap L) (hf : Fine L) (n1 : 1 ≤ N) (n2 : N ≤ 1000) (t1 : 0 ≤ t) (t2 : t ≤ 15) (low : Nat) (F AE AH : Int) (R : List Int) (hF : fitN L N = F) (hlow : First (fun j => decide (tagAt L ((j : Int) + 1) = 0)) 40 low) (hcase : AlCase L N t low F AE AH R) :
    Calls Tryz.prog 9 #[.slice a L.length cap, .int .i64 N, .int .i64 t] w fun e w' => ∃ a' c', e = .returned (.tuple #[.slice a' R.length c', .int .i64 AH, .int .i64 AE]) ∧ Bs w' a' c' R ∧ Below w.heap.size w w' ∧ Fr w.heap.size a' := by
  have hl := hf.len
  have hbl := hbs.2.2.1
  have HE := hide (fun (k : Nat) (hk : k < 40) (W : World) (hW : Below w.heap.size w W) => rEntry_any a cap L ((k : Int) + 1) W (hbs.below hW) hl.1 (by omega) (by omega))
  have HTK := hide (fun (W : World) (hW : Below w.heap.size w W) => sTaken_any a cap L W (hbs.below hW) hf)
  have HFT := hide (fun (v : Option Addr) (c : Nat) (W : World) (h : Exs W v c (takeL L)) => rfit_any ((L.length : Int) - 288) v c (takeL L) N W h (take_chk hf))
  change Hid (∀ (v : Option Addr) (c : Nat) (W : World), Exs W v c (takeL L) → Calls Tryz.prog 35 #[.int .i64 ((L.length : Int) - 288), .slice v (takeL L).length c, .int .i64 N] W fun e w' => e = .returned (.int .i64 (fitN L N)) ∧ Below W.heap.size W w') at HFT
  rw [hF] at HFT
  have HPE := hide (fun (e : (Int × Int × Int × Int)) (W : World) (hW : Below w.heap.size w W) => rPutEntry_any a cap L e W (hbs.below hW) hf.len0)
  have HWP := hide (fun (a : Option Addr) (cap : Nat) (P : List Int) (x : Nat) (W : World) (hP : P.length = L.length) (hb : Bs W a cap P) (hx : x + N ≤ L.length) => rWipe_any a cap P x N W hb (by omega) (by omega) (by omega))
  have htl := takeL_len L
  have HTN : Hid (True → (takeL L).length ≤ 8796093021952) := hide (fun _ => by omega)
  have HTI : Hid (∀ e ∈ takeL L, InI e) := hide (fun e he => by
    obtain ⟨h, h1, h2, h3, rfl⟩ := mem_takeL.1 he
    have := hf.ent h1 h2 h3
    unfold InI shE
    dsimp only
    omega)
  have HLOW := hide hlow
  have HCASE := hide hcase
  have HBY := hide hbs.1
  have HHL := hide hl
  have r1 : ¬ (N : Int) < 1 := by omega
  have r2 : ¬ 1000 < (N : Int) := by omega
  have r3 : ¬ t < 0 := by omega
  have r4 : ¬ 15 < t := by omega
  clear hbs hf hF hlow hcase htl
  generalize takeL L = TL at *
  go_enter Tryz.func9, Tryz.ntmps9
  go_wp2_with fail
  go_loopw [9] (fun hv wr => ∃ k : Nat, k ≤ 40 ∧ hv = .int .i64 ((k : Int) + 1) ∧ (∀ j, j < k → decide (tagAt L ((j : Int) + 1) = 0) = false) ∧ Below w.heap.size w wr) (fun hv _ => 41 - (intOf hv).toNat)
  case atStart => exact ⟨0, Nat.zero_le _, rfl, fun j hj => absurd hj (Nat.not_lt_zero j), Below.refl _ _⟩
  case round =>
    obtain ⟨k, hk, rfl, hall, hbel⟩ := hrel
    by_cases hk40 : k < 40
    · have HEk := hide (unhide HE k hk40 wr hbel)
      unfold entV at HEk
      have HALL := hide hall
      have HBEL := hide hbel
      by_cases ht : tagAt L ((k : Int) + 1) = 0
      · have hkl : low = k := First.unique (unhide HLOW) ⟨hk, hall, fun _ => decide_eq_true ht⟩
        rw [ht] at HEk
        subst hkl
        clear hall hbel ht HALL HLOW
        obtain ⟨E, hE⟩ : ∃ E, entOf L ((low : Int) + 1) = E := ⟨_, rfl⟩
        rw [hE] at HEk
        clear hE
        obtain ⟨y1, y2, y3, y4⟩ := E
        dsimp only at HEk
        go_wp2_with fail
        refine (unhide HEk).mono ?_
        rintro e w1 ⟨rfl, hb1⟩
        have hB1 := ((unhide HBEL).trans (hb1.mono (unhide HBEL).size))
        have hB2 := hB1.alloc hB1.size (.cells #[.int .i64 y1, .int .i64 y2, .int .i64 y3, .int .i64 y4] 66)
        have HTK2 := hide (unhide HTK _ hB2)
        have HB2 := hide hB2
        clear hb1 hB1 hB2 HEk HBEL HTK HE
        go_wp2_with fail
        refine (unhide HTK2).mono ?_
        rintro e w3 ⟨v3, rfl, hown3, hb3⟩
        obtain ⟨a3, c3, rfl, hx3⟩ := ExO.exs (l := TL) hown3 (unhide HTI) (unhide HTN trivial)
        have HFT3 := hide (unhide HFT a3 c3 w3 hx3)
        have hB3 := (unhide HB2).trans (hb3.mono (unhide HB2).size)
        have HB3 := hide hB3
        clear hown3 hx3 hb3 hB3 HTK2 HB2 HFT HTI HTN
        generalize TL.length = TN at *
        go_wp2_with fail
        refine (unhide HFT3).mono ?_
        rintro e w4 ⟨rfl, hb4⟩
        have hB4 := (unhide HB3).trans (hb4.mono (unhide HB3).size)
        have HB4 := hide hB4
        clear hb4 HFT3 HB3
        rcases unhide HCASE with ⟨e1, _⟩ | ⟨_, e2, rfl, rfl, rfl⟩ | ⟨_, x, e1, e2, rfl, rfl, e3, e4, e5⟩
        · omega
        · clear HCASE HPE HWP hB4
          go_wp2
          go_ret3
          exact ⟨none, 0, rfl, bs_nil _, unhide HB4, Fr.nil _⟩
        · have HPE4 := hide (unhide HPE ((low : Int) + 1, (x : Int), (N : Int), t) w4 hB4)
          rw [e3] at HPE4
          have hPl : (putL L ((low : Int) + 1, (x : Int), (N : Int), t)).length = L.length := putL_len e3
          unfold entV at HPE4
          dsimp only at HPE4
          have hFx : F = (x : Int) - 288 := by omega
          subst hFx
          have hx288 : (x : Int) - 288 + 288 = x := by omega
          clear HCASE HPE hB4 e3 e1
          generalize putL L ((low : Int) + 1, (x : Int), (N : Int), t) = P at *
          have HPL := hide hPl
          have HE5 := hide e5
          have hx1 : (288 : Int) ≤ x := by omega
          have hx2 : (x : Int) ≤ 6400 := by omega
          clear hPl e5 hx288
          go_wp2_with fail
          refine (unhide HPE4).mono ?_
          rintro e w5 ⟨a5, c5, he5, hbs5, hb5⟩
          rw [unhide HPL] at he5
          subst he5
          have hWP5 := unhide HWP a5 c5 P x w5 (unhide HPL) hbs5 e4
          rw [unhide HPL] at hWP5
          have HWP5 := hide hWP5
          have HB5 := hide ((unhide HB4).trans (hb5.mono (unhide HB4).size))
          have HBR := hide (byt_splice (off := x) hbs5.1 (byt_zerosB N))
          have HRL := hide (length_splice (z := P) (l := zerosB N) (off := x) (by rw [length_zerosB, unhide HPL]; exact e4))
          clear hWP5 hbs5 hb5 HPE4 HWP HB4
          go_wp2_with fail
          refine (unhide HWP5).mono ?_
          rintro e w6 ⟨g6, c6, rfl, ho6, hb6⟩
          have HBS6 := hide (ho6.bs (unhide HBR) (by rw [unhide HRL, unhide HPL]; omega))
          have HB6 := hide ((unhide HB5).trans (hb6.mono (unhide HB5).size))
          have HFR := hide (Nat.le_trans (unhide HB5).size ho6.base)
          clear ho6 hb6 HWP5 HB5
          go_wp2
          go_ret3
          refine ⟨some ⟨g6, 0, none⟩, c6, ?_, ?_, unhide HB6, Fr.at (unhide HFR)⟩
          · rw [unhide HE5, unhide HRL, unhide HPL]; rfl
          · rw [unhide HE5]; exact unhide HBS6
      · have hd : decide (tagAt L ((k : Int) + 1) = 0) = false := decide_eq_false ht
        rw [bne_iff_ne.2 ht] at HEk
        clear hall hbel ht
        obtain ⟨E, hE⟩ : ∃ E, entOf L ((k : Int) + 1) = E := ⟨_, rfl⟩
        rw [hE] at HEk
        clear hE
        obtain ⟨y1, y2, y3, y4⟩ := E
        dsimp only at HEk
        have HD := hide hd
        clear hd
        go_wp2_with fail
        refine (unhide HEk).mono ?_
        rintro e w1 ⟨rfl, hb1⟩
        have HB1 := hide ((unhide HBEL).trans (hb1.mono (unhide HBEL).size))
        clear hb1 HEk HBEL
        go_wp2
        go_roundw
        case rel => exact ⟨k + 1, by omega, by go_num, First.step (unhide HALL) (unhide HD), (unhide HB1).alloc (unhide HB1).size _⟩
        case measure => simp [intOf]; omega
    · obtain rfl : k = 40 := by omega
      have hkl : low = 40 := First.unique (unhide HLOW) ⟨Nat.le_refl _, hall, fun h => absurd h (Nat.lt_irrefl _)⟩
      rcases unhide HCASE with ⟨_, rfl, rfl, rfl⟩ | ⟨e0, _⟩ | ⟨e0, _⟩
      · have HTK2 := hide (unhide HTK wr hbel)
        have HB2 := hide hbel
        clear hall hbel hkl HCASE HLOW HE HPE HWP
        go_wp2_with fail
        refine (unhide HTK2).mono ?_
        rintro e w3 ⟨v3, rfl, hown3, hb3⟩
        obtain ⟨a3, c3, rfl, hx3⟩ := ExO.exs (l := TL) hown3 (unhide HTI) (unhide HTN trivial)
        have HFT3 := hide (unhide HFT a3 c3 w3 hx3)
        have HB3 := hide ((unhide HB2).trans (hb3.mono (unhide HB2).size))
        clear hown3 hx3 hb3 HTK2 HB2 HFT HTI HTN
        generalize TL.length = TN at *
        go_wp2_with fail
        refine (unhide HFT3).mono ?_
        rintro e w4 ⟨rfl, hb4⟩
        have HB4 := hide ((unhide HB3).trans (hb4.mono (unhide HB3).size))
        clear hb4 HFT3 HB3
        go_wp2
        go_ret3
        exact ⟨none, 0, rfl, bs_nil _, unhide HB4, Fr.nil _⟩
      · omega
      · omega
theorem sAlloc_any (a : Option Addr) (cap : Nat) (L : List Int) (n t : Int) (w : World) (hbs : Bs w a cap L) (hf : Fine L) :
    Calls Tryz.prog 9 #[.slice a L.length cap, .int .i64 n, .int .i64 t] w fun e w' => ∃ a' c', e = .returned (.tuple #[.slice a' (if alE L n t = 0 then alB L n t else []).length c', .int .i64 (alH L n t), .int .i64 (alE L n t)]) ∧ Bs w' a' c' (if alE L n t = 0 then alB L n t else []) ∧ Below w.heap.size w w' ∧ Fr w.heap.size a' := by
  by_cases hr : n < 1 ∨ 1000 < n ∨ t < 0 ∨ 15 < t
  · have e1 : alE L n t = 1 := by unfold alE; rw [if_pos hr]
    have e2 : alH L n t = 0 := by unfold alH; rw [e1]; rfl
    rw [e1, e2]
    exact (sAlloc_range a L.length cap n t w hr).mono fun e w' ⟨he, hw⟩ => ⟨none, 0, he, bs_nil _, by rw [hw]; exact Below.refl _ _, Fr.nil _⟩
  · obtain ⟨N, rfl⟩ := Int.eq_ofNat_of_zero_le (show 0 ≤ n by omega)
    exact sAlloc_go a cap L N t w hbs hf (by omega) (by omega) (by omega) (by omega) (lowH L) _ _ _ _ rfl (lowH_first L) (al_case hf (by omega) (by omega) (by omega) (by omega))
end Go.Proofs.YtopblhmbjdfebaaGreatDoor
/-! Contracts of the reference's second part: place, Unset, Set. (Part of the proofs over roots.) -/
namespace Go.Proofs.YtopblhmbjdfebaaGreatDoor
open Go.RowKit
set_option linter.unusedVariables false

/-- The place of a name as a number; -1: there is none. -/
def plI (b : List Int) (s : ByteArray) : Int := if plR b s = 8 then -1 else (plR b s : Int)
set_option maxHeartbeats 1000000 in
theorem sPlace_any (a : Option Addr) (cap : Nat) (L : List Int) (s : ByteArray) (w : World) (hbs : Bs w a cap L) (hl1 : 288 ≤ L.length) (hl2 : L.length ≤ 6400) :
    Calls Tryz.prog 51 #[.slice a L.length cap, .string s] w fun e w' => e = .returned (.int .i64 (plI L s)) ∧ w = w' := by
  have HRA := hide (fun (k : Nat) (hk : k < 8) => rRootAt_any a cap L k w hbs hl1 hl2 hk)
  have HR11 := hide (fun (k : Nat) (hk : k < 8) => rowAt_len (b := L) (i := k) (by omega))
  have HF := hide (plR_first L s)
  generalize hP : plI L s = P
  have HP := hide hP
  clear hbs hP
  generalize hN : L.length = N at *
  have HN := hide hN
  clear hN
  go_enter Tryz.func51, Tryz.ntmps51
  go_wp2_with fail
  go_loop [5] (fun iv => ∃ k : Nat, k ≤ 8 ∧ iv = .int .i64 k ∧ ∀ j, j < k → isAtR L s j = false) (fun iv => 8 - (intOf iv).toNat)
  case atStart => exact ⟨0, Nat.zero_le _, rfl, fun j hj => absurd hj (Nat.not_lt_zero j)⟩
  case round =>
    obtain ⟨k, hk, rfl, hall⟩ := hrel
    by_cases hlt : k < 8
    · have HRk := hide (unhide HRA k hlt)
      have hr11 := unhide HR11 k hlt
      have HALL := hide hall
      have hPk : isAtR L s k = true → P = k := fun h => by
        have : plR L s = k := First.unique (unhide HF) ⟨hk, hall, fun _ => h⟩
        have h2 := unhide HP
        unfold plI at h2
        rw [this, if_neg (by omega)] at h2
        exact h2.symm
      have HPk := hide hPk
      have HIS : Hid (isAtR L s k = (decide ((readOut ((rowAt L k).take 8)).2 = 0) && decide ((readOut ((rowAt L k).take 8)).1 = s))) := hide rfl
      clear hall hPk HP HF
      obtain ⟨I, hI0⟩ : ∃ I, isAtR L s k = I := ⟨_, rfl⟩
      rw [hI0] at HPk HIS
      have HI0 := hide hI0
      clear hI0
      generalize rowAt L k = r at *
      go_wp2_with fail
      refine (unhide HRk).mono ?_
      rintro e w1 ⟨a1, c1, rfl, hb1, hw1⟩
      subst hw1
      obtain ⟨a2, hhi, hb2⟩ := slice_hi (P := Tryz.prog) (t := 22) Tryz.underlying22 size_u8 hb1 8 (by omega)
      rw [hr11, show ((8 : Nat) : Int) = 8 from rfl] at hhi
      have h8 : (r.take 8).length = 8 := by rw [List.length_take]; omega
      have HRD := hide (rRead_any a2 c1 (r.take 8) w hb2)
      rw [h8] at HRD
      clear hb1 hb2 h8 HRk hr11
      generalize (readOut (r.take 8)).1 = nm at *
      generalize (readOut (r.take 8)).2 = cc at *
      by_cases hc : cc = 0
      · subst hc
        by_cases hs : nm = s
        · subst hs
          have hI : I = true := by rw [unhide HIS]; simp
          have HPP := hide (unhide HPk hI)
          clear hI HIS HPk
          go_wp2_with fail
          refine (unhide HRD).mono ?_
          rintro e w2 ⟨rfl, hw2⟩
          subst hw2
          go_wp2
          go_ret
          exact ⟨by rw [unhide HPP]; rfl, rfl⟩
        · have hI : I = false := by rw [unhide HIS]; simp [hs]
          have HI := hide hI
          have hsl := toL_no hs
          clear hI HIS HPk hs
          go_wp2_with fail
          refine (unhide HRD).mono ?_
          rintro e w2 ⟨rfl, hw2⟩
          subst hw2
          go_wp2
          go_round
          case rel => exact ⟨k + 1, by omega, by go_num, First.step (unhide HALL) ((unhide HI0).trans (unhide HI))⟩
          case measure => simp [intOf]; omega
      · have hI : I = false := by rw [unhide HIS]; simp [hc]
        have HI := hide hI
        have hcb : (cc == 0) = false := beq_eq_false_iff_ne.2 hc
        clear hI HIS HPk hc
        go_wp2_with fail
        refine (unhide HRD).mono ?_
        rintro e w2 ⟨rfl, hw2⟩
        subst hw2
        go_wp2
        go_round
        case rel => exact ⟨k + 1, by omega, by go_num, First.step (unhide HALL) ((unhide HI0).trans (unhide HI))⟩
        case measure => simp [intOf]; omega
    · obtain rfl : k = 8 := by omega
      have hp8 : P = -1 := by
        have : plR L s = 8 := First.unique (unhide HF) ⟨hk, hall, fun h => absurd h (Nat.lt_irrefl _)⟩
        have h2 := unhide HP
        unfold plI at h2
        rw [this, if_pos rfl] at h2
        exact h2.symm
      have HPP := hide hp8
      clear hall hp8 HP HF
      go_wp2
      go_ret
      exact ⟨by rw [unhide HPP]; rfl, rfl⟩
/-- The reference's Name. -/
theorem rNameB (s : ByteArray) (w : World) (hs : s.size ≤ 140737488351232) : Calls Tryz.prog 50 #[.string s] w fun e w' => e = .returned (.bool (nameB s)) ∧ w = w' := by
  cases hn : nameB s with
  | true => exact rName_yes s w (nameB_iff.1 hn)
  | false => exact rName_fail s w hs (fun h => by rw [nameB_iff.2 h] at hn; cases hn)
theorem sUnset_any (a : Option Addr) (cap : Nat) (L : List Int) (s : ByteArray) (w : World) (hbs : Bs w a cap L) (hf : Fine L) (hs : s.size ≤ 140737488351232) :
    Calls Tryz.prog 17 #[.slice a L.length cap, .string s] w fun e w' => ∃ a' c', e = .returned (.tuple #[.slice a' (if unE L s = 0 then unB L s else []).length c', .int .i64 (unE L s)]) ∧ Bs w' a' c' (if unE L s = 0 then unB L s else []) ∧ Below w.heap.size w w' ∧ Fr w.heap.size a' := by
  have HN := hide (rNameB s w hs)
  have hl := hf.len
  have hbl := hbs.2.2.1
  have HP := hide (sPlace_any a cap L s w hbs hl.1 hl.2)
  have hpl := plR_le L s
  cases hn : nameB s with
  | false =>
    rw [hn] at HN
    have e1 : unE L s = 2 := by unfold unE; rw [hn]; rfl
    rw [e1, if_neg (by decide)]
    clear e1
    clear hbs hf hl hn HP
    generalize L.length = N at *
    go_enter Tryz.func17, Tryz.ntmps17
    go_wp2_with fail
    refine (unhide HN).mono ?_
    rintro e w1 ⟨rfl, hw⟩
    subst hw
    go_wp2
    go_ret2
    exact ⟨none, 0, rfl, bs_nil _, Below.refl _ _, Fr.nil _⟩
  | true =>
    rw [hn] at HN
    unfold plI at HP
    by_cases h8 : plR L s = 8
    · rw [if_pos h8] at HP
      have e1 : unE L s = 5 := by unfold unE; rw [hn, if_neg (by simp), if_pos h8]
      rw [e1, if_neg (by decide)]
      clear hbs hf hl hn h8 e1
      generalize L.length = N at *
      go_enter Tryz.func17, Tryz.ntmps17
      go_wp2_with fail
      refine (unhide HN).mono ?_
      rintro e w1 ⟨rfl, hw⟩
      subst hw
      go_wp2_with fail
      refine (unhide HP).mono ?_
      rintro e w2 ⟨rfl, hw⟩
      subst hw
      go_wp2
      go_ret2
      exact ⟨none, 0, rfl, bs_nil _, Below.refl _ _, Fr.nil _⟩
    · rw [if_neg h8] at HP
      have e1 : unE L s = 0 := by unfold unE; rw [hn, if_neg (by simp), if_neg h8]
      rw [e1, if_pos rfl]
      clear e1
      have HW := hide (rWipe_any a cap L (200 + 11 * plR L s) 11 w hbs (by omega) hl.2 (by omega))
      rw [show ((200 + 11 * plR L s : Nat) : Int) = 200 + 11 * (plR L s : Int) by omega, show ((11 : Nat) : Int) = 11 from rfl] at HW
      have hU : unB L s = splice L (200 + 11 * plR L s) (zerosB 11) := rfl
      have hUl : (unB L s).length = L.length := by rw [hU, length_splice (by rw [length_zerosB]; omega)]
      have HBY := hide (show Byt (unB L s) from byt_splice hbs.1 (byt_zerosB 11))
      rw [← hU] at HW
      have HUL := hide hUl
      have hp7 : (plR L s : Int) ≤ 7 := by omega
      clear hbs hf hn hU hUl h8 hpl
      generalize unB L s = U at *
      generalize plR L s = p at *
      generalize L.length = N at *
      go_enter Tryz.func17, Tryz.ntmps17
      go_wp2_with fail
      refine (unhide HN).mono ?_
      rintro e w1 ⟨rfl, hw⟩
      subst hw
      go_wp2_with fail
      refine (unhide HP).mono ?_
      rintro e w2 ⟨rfl, hw⟩
      subst hw
      go_wp2_with fail
      refine (unhide HW).mono ?_
      rintro e w3 ⟨g, c, rfl, ho, hb⟩
      have HB := hide hb
      have HFR := hide ho.base
      have HO := hide (ho.bs (unhide HBY) (by rw [unhide HUL]; omega))
      clear ho hb HW
      go_wp2
      go_ret2
      exact ⟨some ⟨g, 0, none⟩, c, by rw [unhide HUL]; rfl, unhide HO, unhide HB, Fr.at (unhide HFR)⟩
end Go.Proofs.YtopblhmbjdfebaaGreatDoor
/-! Contracts of the reference's second part: Set. (Part of the proofs over roots.) -/
namespace Go.Proofs.YtopblhmbjdfebaaGreatDoor
open Go.RowKit
set_option linter.unusedVariables false

/-- The first place from k on that has none, as a number; -1: there is none. -/
def frFrom (L : List Int) (k : Nat) (m : Int) : Prop := (∃ j : Nat, m = j ∧ k ≤ j ∧ j < 8 ∧ isRoot (rowAt L j) = false ∧ ∀ i, k ≤ i → i < j → isRoot (rowAt L i) = true) ∨ (m = -1 ∧ ∀ i, k ≤ i → i < 8 → isRoot (rowAt L i) = true)
theorem frFrom_zero {L : List Int} {m : Int} (h : frFrom L 0 m) : m = if frR L = 8 then -1 else (frR L : Int) := by
  have hf := frR_first L
  rcases h with ⟨j, rfl, _, h2, h3, h4⟩ | ⟨rfl, h4⟩
  · have : frR L = j := First.unique hf ⟨by omega, fun i hi => by simp [h4 i (by omega) hi], fun _ => by simp [h3]⟩
    rw [this, if_neg (by omega)]
  · have : frR L = 8 := First.unique hf ⟨Nat.le_refl _, fun i hi => by simp [h4 i (by omega) hi], fun h => absurd h (Nat.lt_irrefl _)⟩
    rw [this, if_pos rfl]
theorem frFrom_step {L : List Int} {k : Nat} {m : Int} (hk : k < 8) (h : frFrom L (k + 1) m) : frFrom L k (if isRoot (rowAt L k) = true then m else (k : Int)) := by
  cases hr : isRoot (rowAt L k) with
  | false =>
    rw [if_neg (by simp)]
    exact .inl ⟨k, rfl, Nat.le_refl _, hk, hr, fun i h1 h2 => by omega⟩
  | true =>
    rw [if_pos rfl]
    rcases h with ⟨j, rfl, h1, h2, h3, h4⟩ | ⟨rfl, h4⟩
    · refine .inl ⟨j, rfl, by omega, h2, h3, fun i h5 h6 => ?_⟩
      by_cases e : i = k
      · subst e; exact hr
      · exact h4 i (by omega) h6
    · refine .inr ⟨rfl, fun i h5 h6 => ?_⟩
      by_cases e : i = k
      · subst e; exact hr
      · exact h4 i (by omega) h6
theorem frFrom_start (L : List Int) : frFrom L 8 (-1) := .inr ⟨rfl, fun i h1 h2 => by omega⟩
theorem frFrom_bd {L : List Int} {k : Nat} {m : Int} (h : frFrom L k m) : -1 ≤ m ∧ m ≤ 7 := by
  rcases h with ⟨j, rfl, _, h2, _⟩ | ⟨rfl, _⟩
  · omega
  · omega

theorem sSet_no (a : Option Addr) (cap : Nat) (L : List Int) (s : ByteArray) (h : Int) (w : World) (hbs : Bs w a cap L) (hf : Fine L) (hs : s.size ≤ 140737488351232) (hbad : nameB s = false ∨ chkE L h ≠ 0) :
    Calls Tryz.prog 15 #[.slice a L.length cap, .string s, .int .i64 h] w fun e w' => e = .returned (.tuple #[.slice none 0 0, .bool false, .int .i64 (seE L s h)]) ∧ Below w.heap.size w w' := by
  have HN := hide (rNameB s w hs)
  have HH := hide (sHandle_any a cap L h w hbs hf.len0)
  have hbl := hbs.2.2.1
  cases hn : nameB s with
  | false =>
    have e1 : seE L s h = 2 := by unfold seE; rw [hn]; rfl
    rw [hn] at HN
    rw [e1]
    clear hbs hf hn hbad e1 HH
    generalize L.length = N at *
    go_enter Tryz.func15, Tryz.ntmps15
    go_wp2_with fail
    refine (unhide HN).mono ?_
    rintro e w1 ⟨rfl, hw⟩
    subst hw
    go_wp2
    go_ret3
    exact ⟨rfl, Below.refl _ _⟩
  | true =>
    rcases hbad with hb | hc
    · rw [hn] at hb; cases hb
    have e1 : seE L s h = chkE L h := by unfold seE; rw [hn, if_neg (by simp), if_pos hc]
    rw [hn] at HN
    rw [e1]
    have hcb : (chkE L h == 0) = false := beq_eq_false_iff_ne.2 hc
    clear hbs hf hn e1 hc
    generalize chkE L h = X at *
    generalize L.length = N at *
    go_enter Tryz.func15, Tryz.ntmps15
    go_wp2_with fail
    refine (unhide HN).mono ?_
    rintro e w1 ⟨rfl, hw⟩
    subst hw
    go_wp2_with fail
    refine (unhide HH).mono ?_
    rintro e w2 ⟨rfl, hb⟩
    have HB := hide hb
    clear hb HH
    go_wp2
    go_ret3
    exact ⟨rfl, unhide HB⟩
set_option maxRecDepth 100000 in
set_option maxHeartbeats 2000000 in
theorem sSet_old (a : Option Addr) (cap : Nat) (L : List Int) (s : ByteArray) (h : Int) (w : World) (hbs : Bs w a cap L) (hf : Fine L) (hs : s.size ≤ 140737488351232) (hn : nameB s = true) (hc : chkE L h = 0) (hp : plR L s < 8) :
    Calls Tryz.prog 15 #[.slice a L.length cap, .string s, .int .i64 h] w fun e w' => ∃ a' c', e = .returned (.tuple #[.slice a' (seB L s h).length c', .bool false, .int .i64 0]) ∧ Bs w' a' c' (seB L s h) ∧ Below w.heap.size w w' ∧ Fr w.heap.size a' := by
  have HN := hide (rNameB s w hs)
  have HH := hide (sHandle_any a cap L h w hbs hf.len0)
  have hbl := hbs.2.2.1
  have hI : seI L s = plR L s := by unfold seI; rw [if_pos hp]
  have h0 : seE L s h = 0 := by unfold seE; rw [hn, if_neg (by simp), if_neg (fun h => h hc), hI, if_neg (by omega)]
  obtain ⟨p1, p2, _, _⟩ := se_put hf h0
  have hl := hf.len
  have HP := hide (fun (W : World) (hW : Below w.heap.size w W) => sPlace_any a cap L s W (hbs.below hW) hl.1 hl.2)
  have eP : plI L s = (plR L s : Int) := by unfold plI; rw [if_neg (by omega)]
  rw [eP] at HP
  have HPR := hide (fun (W : World) (hW : Below w.heap.size w W) => rPutRootF_any a cap L (seI L s) (s, h) W (hbs.below hW) hf.len0 hs)
  rw [p1] at HPR
  change Hid (∀ W : World, Below w.heap.size w W → Calls Tryz.prog 54 #[.slice a L.length cap, .int .i64 (seI L s : Nat), rootV (s, h)] W (EndsF W (seB L s h) (.int .i64 0))) at HPR
  rw [hI] at HPR
  unfold rootV at HPR
  dsimp only at HPR
  have hSl : (seB L s h).length = L.length := prL_len p1
  rw [hn] at HN
  rw [hc] at HH
  have HSL := hide hSl
  clear hbs hf hn hc hI h0 p1 p2 eP hSl hl
  generalize seB L s h = SB at *
  generalize plR L s = p at *
  generalize L.length = N at *
  go_enter Tryz.func15, Tryz.ntmps15
  go_wp2_with fail
  refine (unhide HN).mono ?_
  rintro e w1 ⟨rfl, hw⟩
  subst hw
  go_wp2_with fail
  refine (unhide HH).mono ?_
  rintro e w2 ⟨rfl, hb2⟩
  have HP2 := hide (unhide HP w2 hb2)
  have HPR2 := hide (unhide HPR w2 hb2)
  have HB2 := hide hb2
  clear hb2 HH HP HPR
  go_wp2_with fail
  refine (unhide HP2).mono ?_
  rintro e w3 ⟨rfl, hw⟩
  subst hw
  go_wp2_with fail
  go_loop [11, 13] (fun iv kv => iv = .int .i64 p ∧ kv = .int .i64 7) (fun _ _ => 0)
  case atStart => exact ⟨rfl, rfl⟩
  case round =>
    obtain ⟨rfl, rfl⟩ := hrel
    have hp0 : (0 : Int) ≤ (p : Int) := by omega
    go_wp2_with fail
    refine (unhide HPR2).mono ?_
    rintro e w4 ⟨a4, c4, he4, hbs4, hb4, hfr4⟩
    have HFR := hide (hfr4.mono (unhide HB2).size)
    clear hfr4
    rw [unhide HSL] at he4
    subst he4
    have HBS4 := hide hbs4
    have HB4 := hide ((unhide HB2).trans (hb4.mono (unhide HB2).size))
    clear hbs4 hb4 HPR2 HB2
    go_wp2
    go_ret3
    exact ⟨a4, c4, by rw [unhide HSL]; rfl, unhide HBS4, unhide HB4, unhide HFR⟩
set_option maxRecDepth 100000 in
set_option maxHeartbeats 2000000 in
theorem sSet_new (a : Option Addr) (cap : Nat) (L : List Int) (s : ByteArray) (h : Int) (w : World) (hbs : Bs w a cap L) (hf : Fine L) (hs : s.size ≤ 140737488351232) (hn : nameB s = true) (hc : chkE L h = 0) (hp : plR L s = 8) :
    Calls Tryz.prog 15 #[.slice a L.length cap, .string s, .int .i64 h] w fun e w' => ∃ a' c', e = .returned (.tuple #[.slice a' (if frR L = 8 then [] else seB L s h).length c', .bool (!decide (frR L = 8)), .int .i64 (if frR L = 8 then 4 else 0)]) ∧ Bs w' a' c' (if frR L = 8 then [] else seB L s h) ∧ Below w.heap.size w w' ∧ Fr w.heap.size a' := by
  have HN := hide (rNameB s w hs)
  have HH := hide (sHandle_any a cap L h w hbs hf.len0)
  have hbl := hbs.2.2.1
  have hI : seI L s = frR L := by unfold seI; rw [if_neg (by omega)]
  have hl := hf.len
  have HP := hide (fun (W : World) (hW : Below w.heap.size w W) => sPlace_any a cap L s W (hbs.below hW) hl.1 hl.2)
  have eP : plI L s = -1 := by unfold plI; rw [if_pos hp]
  rw [eP] at HP
  have HPR : Hid (frR L < 8 → ∀ W : World, Below w.heap.size w W → Calls Tryz.prog 54 #[.slice a L.length cap, .int .i64 (frR L : Nat), .agg #[.string s, .int .i64 h]] W fun e w' => ∃ a4 c4, e = .returned (.tuple #[.slice a4 L.length c4, .int .i64 0]) ∧ Bs w' a4 c4 (seB L s h) ∧ Below W.heap.size W w' ∧ Fr W.heap.size a4) := hide (fun hlt W hW => by
    have h0 : seE L s h = 0 := by unfold seE; rw [hn, if_neg (by simp), if_neg (fun h => h hc), hI, if_neg (by omega)]
    obtain ⟨p1, p2, _, _⟩ := se_put hf h0
    have := rPutRootF_any a cap L (seI L s) (s, h) W (hbs.below hW) hf.len0 hs
    rw [p1] at this
    have hSl : (seB L s h).length = L.length := prL_len p1
    rw [hI] at this
    refine this.mono fun e w' ⟨a4, c4, he, hb4, hb, hfr⟩ => ⟨a4, c4, ?_, ?_, hb, hfr⟩
    · rw [he]
      have : prL L (frR L : Nat) (s, h) = seB L s h := by unfold seB; rw [hI]
      rw [this, hSl]
    · have : prL L (frR L : Nat) (s, h) = seB L s h := by unfold seB; rw [hI]
      rw [← this]
      exact hb4)
  have HSL : Hid (frR L < 8 → (seB L s h).length = L.length) := hide (fun hlt => by
    have h0 : seE L s h = 0 := by unfold seE; rw [hn, if_neg (by simp), if_neg (fun h => h hc), hI, if_neg (by omega)]
    exact prL_len (se_put hf h0).1)
  have HRA := hide (fun (k : Nat) (hk : k < 8) (W : World) (hW : Below w.heap.size w W) => rRootAt_any a cap L k W (hbs.below hW) hl.1 hl.2 hk)
  have HR11 := hide (fun (k : Nat) (hk : k < 8) => rowAt_len (b := L) (i := k) (by omega))
  have HST := hide (frFrom_start L)
  have hfl := frR_le L
  rw [hn] at HN
  rw [hc] at HH
  have HFL := hide hfl
  clear hbs hf hn hc hI eP hl hp hfl
  generalize hSB : seB L s h = SB at *
  clear hSB
  generalize hN : L.length = N at *
  clear hN
  have HRES8 : Hid (frR L = 8 → (if frR L = 8 then [] else SB) = [] ∧ (!decide (frR L = 8)) = false ∧ (if frR L = 8 then (4 : Int) else 0) = 4) := hide (fun h8 => by rw [h8]; exact ⟨rfl, rfl, rfl⟩)
  have HRESN : Hid (frR L < 8 → (if frR L = 8 then [] else SB) = SB ∧ (!decide (frR L = 8)) = true ∧ (if frR L = 8 then (4 : Int) else 0) = 0) := hide (fun hlt => by rw [if_neg (by omega), if_neg (by omega), decide_eq_false (by omega)]; exact ⟨rfl, rfl, rfl⟩)
  generalize (if frR L = 8 then [] else SB) = RS at *
  generalize (!decide (frR L = 8)) = RB at *
  generalize (if frR L = 8 then (4 : Int) else 0) = RE at *
  go_enter Tryz.func15, Tryz.ntmps15
  go_wp2_with fail
  refine (unhide HN).mono ?_
  rintro e w1 ⟨rfl, hw⟩
  subst hw
  go_wp2_with fail
  refine (unhide HH).mono ?_
  rintro e w2 ⟨rfl, hb2⟩
  have HP2 := hide (unhide HP w2 hb2)
  have HB2 := hide hb2
  clear hb2 HH HP
  go_wp2_with fail
  refine (unhide HP2).mono ?_
  rintro e w3 ⟨rfl, hw⟩
  subst hw
  go_wp2_with fail
  go_loop [11, 13] (fun iv kv => ∃ (k : Nat) (m : Int), k ≤ 8 ∧ kv = .int .i64 ((k : Int) - 1) ∧ iv = .int .i64 m ∧ frFrom L k m) (fun _ kv => (intOf kv + 1).toNat)
  case atStart => exact ⟨8, -1, Nat.le_refl _, rfl, rfl, unhide HST⟩
  case round =>
    obtain ⟨k, m, hk, rfl, rfl, hfr⟩ := hrel
    rcases Nat.eq_zero_or_pos k with rfl | hpos
    · have hm := frFrom_zero hfr
      by_cases h8 : frR L = 8
      · rw [if_pos h8] at hm
        subst hm
        obtain ⟨q1, q2, q3⟩ := unhide HRES8 h8
        have HQ1 := hide q1
        have HQ2 := hide q2
        have HQ3 := hide q3
        clear hfr h8 HPR HSL HRA HR11 HST HFL q1 q2 q3 HRES8 HRESN
        go_wp2
        go_ret3
        exact ⟨none, 0, by rw [unhide HQ1, unhide HQ2, unhide HQ3]; rfl, by rw [unhide HQ1]; exact bs_nil _, unhide HB2, Fr.nil _⟩
      · rw [if_neg h8] at hm
        subst hm
        have hlt : frR L < 8 := by have := unhide HFL; omega
        obtain ⟨q1, q2, q3⟩ := unhide HRESN hlt
        have HQ1 := hide q1
        have HQ2 := hide q2
        have HQ3 := hide q3
        have HPR2 := hide (unhide HPR hlt _ (unhide HB2))
        have HSL2 := hide (unhide HSL hlt)
        clear hfr h8 HPR HSL HRA HR11 HST HFL q1 q2 q3 HRES8 HRESN hlt
        generalize frR L = p at *
        have hp0 : (0 : Int) ≤ (p : Int) := by omega
        go_wp2_with fail
        refine (unhide HPR2).mono ?_
        rintro e w4 ⟨a4, c4, rfl, hbs4, hb4, hfr4⟩
        have HFR := hide (hfr4.mono (unhide HB2).size)
        clear hfr4
        have HBS4 := hide hbs4
        have HB4 := hide ((unhide HB2).trans (hb4.mono (unhide HB2).size))
        clear hbs4 hb4 HPR2 HB2
        go_wp2
        go_ret3
        refine ⟨a4, c4, ?_, ?_, unhide HB4, unhide HFR⟩
        · rw [unhide HQ1, unhide HQ2, unhide HQ3, unhide HSL2]; rfl
        · rw [unhide HQ1]; exact unhide HBS4
    · obtain ⟨j, rfl⟩ : ∃ j, k = j + 1 := ⟨k - 1, by omega⟩
      have hj8 : j < 8 := by omega
      have HSTEP := hide (frFrom_step hj8 hfr)
      have hr11 := unhide HR11 j hj8
      have HRk := hide (unhide HRA j hj8 _ (unhide HB2))
      have e0 : ((j + 1 : Nat) : Int) - 1 = (j : Int) := by omega
      rw [e0]
      have hj0 : (0 : Int) ≤ (j : Int) := by omega
      clear hfr e0
      generalize rowAt L j = r at *
      go_wp2_with fail
      refine (unhide HRk).mono ?_
      rintro e w4 ⟨a4, c4, rfl, hb4, hw4⟩
      subst hw4
      have HZ := hide (rZero_any a4 c4 r _ hb4)
      rw [hr11] at HZ
      clear hb4 HRk
      cases hr : isRoot r with
      | false =>
        rw [hr] at HZ HSTEP
        rw [if_neg (by simp)] at HSTEP
        clear hr
        go_wp2_with fail
        refine (unhide HZ).mono ?_
        rintro e w5 ⟨rfl, hw5⟩
        subst hw5
        go_wp2
        go_round
        case rel => exact ⟨j, j, by omega, rfl, rfl, unhide HSTEP⟩
        case measure => simp [intOf]
      | true =>
        rw [hr] at HZ HSTEP
        rw [if_pos rfl] at HSTEP
        clear hr
        go_wp2_with fail
        refine (unhide HZ).mono ?_
        rintro e w5 ⟨rfl, hw5⟩
        subst hw5
        go_wp2
        go_round
        case rel => exact ⟨j, m, by omega, rfl, rfl, unhide HSTEP⟩
        case measure => simp [intOf]
theorem sSet_any (a : Option Addr) (cap : Nat) (L : List Int) (s : ByteArray) (h : Int) (w : World) (hbs : Bs w a cap L) (hf : Fine L) (hs : s.size ≤ 140737488351232) :
    Calls Tryz.prog 15 #[.slice a L.length cap, .string s, .int .i64 h] w fun e w' => ∃ a' c', e = .returned (.tuple #[.slice a' (if seE L s h = 0 then seB L s h else []).length c', .bool (decide (seE L s h = 0) && seN L s), .int .i64 (seE L s h)]) ∧ Bs w' a' c' (if seE L s h = 0 then seB L s h else []) ∧ Below w.heap.size w w' ∧ Fr w.heap.size a' := by
  by_cases hbad : nameB s = false ∨ chkE L h ≠ 0
  · have hne : seE L s h ≠ 0 := by
      intro h0
      obtain ⟨_, _, h3, h4⟩ := se_put hf h0
      rcases hbad with hb | hb
      · rw [hb] at h3; cases h3
      · exact hb h4
    rw [if_neg hne, decide_eq_false hne, Bool.false_and]
    exact (sSet_no a cap L s h w hbs hf hs hbad).mono fun e w' ⟨he, hb⟩ => ⟨none, 0, he, bs_nil _, hb, Fr.nil _⟩
  · have hn : nameB s = true := by cases h1 : nameB s with | true => rfl | false => exact absurd (.inl h1) hbad
    have hc : chkE L h = 0 := Classical.byContradiction fun h1 => hbad (.inr h1)
    have hE : seE L s h = if seI L s = 8 then 4 else 0 := by unfold seE; rw [hn, if_neg (by simp), if_neg (fun h => h hc)]
    by_cases hp : plR L s = 8
    · have hI : seI L s = frR L := by unfold seI; rw [if_neg (by omega)]
      have hN : seN L s = true := decide_eq_true hp
      rw [hI] at hE
      have := sSet_new a cap L s h w hbs hf hs hn hc hp
      rw [← hE] at this
      refine this.mono fun e w' ⟨a', c', he, hb, hbel, hfr⟩ => ⟨a', c', ?_, ?_, hbel, hfr⟩
      · rw [he, hN]
        by_cases h8 : frR L = 8
        · rw [hE]; simp [h8]
        · rw [hE]; simp [h8]
      · by_cases h8 : frR L = 8
        · rw [if_pos h8] at hb; rw [hE]; simp only [h8, if_true]; exact hb
        · rw [if_neg h8] at hb; rw [hE, if_neg h8]; exact hb
    · have hlt : plR L s < 8 := by have := plR_le L s; omega
      have hI : seI L s = plR L s := by unfold seI; rw [if_pos hlt]
      have hN : seN L s = false := decide_eq_false hp
      rw [hI, if_neg hp] at hE
      rw [hE, hN, if_pos rfl, Bool.and_false]
      exact sSet_old a cap L s h w hbs hf hs hn hc hlt
end Go.Proofs.YtopblhmbjdfebaaGreatDoor
/-! Contract of the reference's Step. (Part of the proofs over moving.) -/
namespace Go.Proofs.YtopblhmbjdfebaaGreatDoor
open Go.RowKit
set_option linter.unusedVariables false

/-- Bytes of which the first k of others are laid from a place on. -/
def layK (l : List Int) (p : Nat) (o : List Int) : Nat → List Int
  | 0 => l
  | k + 1 => (layK l p o k).set (p + k) (o.getD k 0)
theorem length_layK (l : List Int) (p : Nat) (o : List Int) (k : Nat) : (layK l p o k).length = l.length := by
  induction k with
  | zero => rfl
  | succ k ih => simp [layK, ih]
theorem layK_in (l : List Int) (p : Nat) (o : List Int) : ∀ k j, j < k → p + k ≤ l.length → (layK l p o k).getD (p + j) 0 = o.getD j 0 := by
  intro k
  induction k with
  | zero => intro j hj; omega
  | succ k ih =>
    intro j hj hk
    have hlen := length_layK l p o k
    by_cases h : j = k
    · subst h
      simp only [layK, List.getD]
      rw [List.getElem?_set_self (by omega)]
      rfl
    · have h1 := ih j (by omega) (by omega)
      simp only [layK, List.getD] at h1 ⊢
      rw [List.getElem?_set_ne (by omega)]
      exact h1
theorem layK_out (l : List Int) (p : Nat) (o : List Int) : ∀ k j, (j < p ∨ p + k ≤ j) → (layK l p o k).getD j 0 = l.getD j 0 := by
  intro k
  induction k with
  | zero => intro j _; rfl
  | succ k ih =>
    intro j hj
    rw [← ih j (by omega)]
    simp [layK, List.getD]
    rw [List.getElem?_set_ne (by omega)]
theorem layK_splice (l : List Int) (p : Nat) (o : List Int) (h : p + o.length ≤ l.length) : layK l p o o.length = splice l p o := by
  have hs := length_splice (z := l) (l := o) (off := p) h
  apply ext_getD
  · rw [length_layK, hs]
  · intro j hj
    rw [length_layK] at hj
    by_cases h1 : j < p ∨ p + o.length ≤ j
    · rw [layK_out l p o o.length j h1, splice_out h (by omega)]
    · obtain ⟨i, rfl⟩ : ∃ i, j = p + i := ⟨j - p, by omega⟩
      rw [layK_in l p o o.length i (by omega) h, splice_in h (by omega)]
/-- The best so far, as an entry: all 0 where there is none. -/
def enO (b : Option (Int × Int × Int × Int)) : (Int × Int × Int × Int) := b.getD (0, 0, 0, 0)
theorem bs_take {a : Int} {l : List (Int × Int × Int × Int)} {k : Nat} {e : (Int × Int × Int × Int)} (h : l[k]? = some e) : (l.take (k + 1)).foldl (bsE a) none = bsE a ((l.take k).foldl (bsE a) none) e := by
  rw [List.take_add_one, h, List.foldl_append]
  rfl
theorem bs_mem {a : Int} (l : List (Int × Int × Int × Int)) : ∀ x, l.foldl (bsE a) none = some x → x ∈ l := fun x hx => by
  have := bsL_spec a l none (fun x hx => by cases hx)
  rw [hx] at this
  rcases this.1 with h | h
  · cases h
  · exact h
theorem EnB.drewN {w : World} {g : Nat} {e : (Int × Int × Int × Int)} (h : EnB w g e) (k : Nat) : EnB (w.drewN k) g e := h
theorem turn_drewN (S : Nat → Prop) (w : World) (n : Nat) : Turn S S w (w.drewN n) := by
  induction n with
  | zero => exact Turn.refl _ _
  | succ n ih => exact ih.trans (Turn.drew _ _)
set_option maxRecDepth 100000 in
set_option maxHeartbeats 8000000 in
theorem sStep_any (a : Option Addr) (cap : Nat) (L : List Int) (w : World) (hbs : Bs w a cap L) (hf : Fine L) :
    Calls Tryz.prog 19 #[.slice a L.length cap] w fun e w' => ∃ a' c', e = .returned (.tuple #[.slice a' L.length c', .bool (mvS L).isSome]) ∧ Bs w' a' c' ((mvS L).getD L) ∧ Below w.heap.size w w' ∧ ((a' = a ∧ c' = cap) ∨ Fr w.heap.size a') := by
  have hl := hf.len
  have hel := entsK_len L 40
  have hLl := hbs.2.2.1
  have HE := hide (fun (W : World) (hW : Below w.heap.size w W) => rEnts_any a cap L W (hbs.below hW) hl.1)
  have HIN := hide (fun (e : (Int × Int × Int × Int)) (he : e ∈ entsK L 40) => ent_in hf he)
  have HST := hide (StpAt.start hf)
  have HBEST := hide (fun (x : Int) (l1 l2 : List (Int × Int × Int × Int)) (s : StpAt L x l1 l2) => s.best hf)
  have HNEXT := hide (fun (x : Int) (l1 r : List (Int × Int × Int × Int)) (e : (Int × Int × Int × Int)) (s : StpAt L x l1 (e :: r)) (he : ¬ x < e.2.1) => s.next hf he)
  have HMOVE := hide (fun (x : Int) (l1 r : List (Int × Int × Int × Int)) (e : (Int × Int × Int × Int)) (s : StpAt L x l1 (e :: r)) (he : x < e.2.1) => s.move hf he)
  have HSTOP := hide (fun (x : Int) (l1 : List (Int × Int × Int × Int)) (s : StpAt L x l1 []) => s.stop)
  have HOB := hide (fun (e : (Int × Int × Int × Int)) (he : e ∈ entsK L 40) (W : World) (hW : Below w.heap.size w W) => rObject_any a cap L e.1 W (hbs.below hW) hl.1 (ent_in hf he).2.1 (ent_in hf he).2.2.1 (fun _ => by
    have h1 := ent_in hf he
    have h2 : entOf L e.1 = e := h1.1.symm
    rw [h2]
    exact ⟨by omega, by omega, by omega⟩))
  have HPE := hide (fun (x y z t : Int) (W : World) (hW : Below w.heap.size w W) (h0 : putE L (x, y, z, t) = 0) => rPE_own a cap L x y z t W (hbs.below hW) h0)
  have HPUT : Hid (∀ (e : (Int × Int × Int × Int)), e ∈ entsK L 40 → ∀ x : Nat, 288 ≤ x → (x : Int) < e.2.1 → putE L (e.1, (x : Int), e.2.2.1, e.2.2.2) = 0 ∧ (putL L (e.1, (x : Int), e.2.2.1, e.2.2.2)).length = L.length ∧ mvB L e.1 x = splice (putL L (e.1, (x : Int), e.2.2.1, e.2.2.2)) x (objOf L e.1).2 ∧ (objOf L e.1).2.length = e.2.2.1.toNat ∧ Byt (mvB L e.1 x)) := hide (fun e he x hx hlt => by
    have h1 := ent_in hf he
    have h2 : entOf L e.1 = e := h1.1.symm
    have hen := hf.ent h1.2.1 h1.2.2.1 h1.2.2.2.1
    rw [h2] at hen
    have h3 : putE L (e.1, (x : Int), e.2.2.1, e.2.2.2) = 0 := putE_zero.2 ⟨hf.len0, hndB_iff.2 ⟨h1.2.1, h1.2.2.1⟩, hen.2.2.2.2.1, hen.2.2.2.2.2, hen.2.1, hen.2.2.1, by dsimp only; omega, by dsimp only; omega⟩
    refine ⟨h3, putL_len h3, by unfold mvB; rw [h2], ?_, mv_byt hbs.1 _ _⟩
    unfold objOf objE partL
    rw [if_neg h1.2.2.2.1, h2]
    dsimp only
    rw [List.length_take, List.length_drop]
    omega)
  have HBO : Hid (∀ h : Int, strL (strOf (objOf L h).2) = (objOf L h).2) := hide (fun h => strL_strOf _ (byt_obj hbs.1))
  have HBS := hide hbs
  clear hbs hf
  generalize mvS L = MS at *
  generalize entsK L 40 = EN at *
  generalize hN : L.length = N at *
  have HN := hide hN
  clear hN
  go_enter Tryz.func19, Tryz.ntmps19
  go_wp2_with fail
  go_loopw [4] (fun xv wr => ∃ (x : Int) (l1 l2 : List (Int × Int × Int × Int)), xv = .int .i64 x ∧ StpAt L x l1 l2 ∧ Below w.heap.size w wr) (fun xv _ => (6401 - intOf xv).toNat)
  case atStart => exact ⟨288, [], _, rfl, unhide HST, Below.refl _ _⟩
  case round =>
    obtain ⟨x, l1, l2, rfl, hst, hbel⟩ := hrel
    clear HST
    obtain ⟨W0, hW0⟩ : ∃ W0, W0 = wr := ⟨wr, rfl⟩
    have hx1 := hst.b1
    have hx2 := hst.b2
    rw [unhide HN] at hx2
    have hbA : Below w.heap.size w (wr.alloc (.cells #[.int .i64 0, .int .i64 0, .int .i64 0, .int .i64 0] 66)) := hbel.alloc hbel.size _
    have HE1 := hide (unhide HE _ hbA)
    have HENB := hide (EnB.new wr (0, 0, 0, 0))
    have hsz0 := hbel.size
    have HSTP := hide hst
    have HBA := hide hbA
    clear hst hbel hbA HE
    rw [← hW0] at *
    generalize hG : W0.heap.size = G at *
    clear hW0
    go_wp2_with fail
    refine (unhide HE1).mono ?_
    rintro e w1 ⟨v1, rfl, ho1, hb1⟩
    have HBK := hide (fun k (hk : v1.ownBlock = some k) => ho1.block k hk)
    obtain ⟨a1, c1, rfl, hs1⟩ := ho1.sls enC_len (by omega)
    have hGs : G + 1 ≤ w1.heap.size := by have := hb1.size; rw [sz_alloc, hG] at this; exact this
    have hen1 := (unhide HENB).below hb1 (by rw [sz_alloc, hG]; omega)
    have HS1 := hide hs1
    have hcap1 := hs1.2.2.1
    have HB1 := hide ((unhide HBA).trans (hb1.mono (unhide HBA).size))
    have HEN1 := hide hen1
    have HBG : Hid (∀ k, (Value.slice a1 EN.length c1).ownBlock = some k → G < k) := hide (fun k hk => by have := unhide HBK k hk; rw [sz_alloc, hG] at this; omega)
    clear ho1 hs1 hb1 hen1 HE1 HENB HBA HBK
    go_wp2_with fail
    go_loopw [7] (fun iv wr => ∃ k : Nat, k ≤ EN.length ∧ iv = .int .i64 k ∧ EnB wr G (enO ((EN.take k).foldl (bsE x) none)) ∧ Turn (fun j => j = G) (fun j => j = G) w1 wr) (fun iv _ => EN.length - (intOf iv).toNat)
    case atStart => exact ⟨0, Nat.zero_le _, rfl, unhide HEN1, Turn.refl _ _⟩
    case round =>
      obtain ⟨k, hk, rfl, hen, htn⟩ := hrel
      by_cases hlt : k < EN.length
      · have hne : EN ≠ [] := by intro e; rw [e] at hlt; simp at hlt
        obtain ⟨b1, o1, rfl, hc1⟩ := (unhide HS1).2.2.2 hne
        obtain ⟨f, hf⟩ : ∃ f, EN[k]? = some f := ⟨EN[k], List.getElem?_eq_getElem hlt⟩
        obtain ⟨p0, p1, p2, p3⟩ := Sls.ent (cap := 0) hc1 hf
        have hbG := unhide HBG b1 rfl
        have q0 := (World.cell?_of_block (a := ⟨b1, o1 + k * 4, none⟩) (htn.block b1 (block_lt_of_cell p0) (by omega))).trans p0
        have q1 := (World.cell?_of_block (a := ⟨b1, o1 + k * 4 + 1, none⟩) (htn.block b1 (block_lt_of_cell p1) (by omega))).trans p1
        have q2 := (World.cell?_of_block (a := ⟨b1, o1 + k * 4 + 2, none⟩) (htn.block b1 (block_lt_of_cell p2) (by omega))).trans p2
        have q3 := (World.cell?_of_block (a := ⟨b1, o1 + k * 4 + 3, none⟩) (htn.block b1 (block_lt_of_cell p3) (by omega))).trans p3
        have hbt := bs_take (a := x) hf
        have hmem := bs_mem (a := x) (EN.take k)
        have hin := unhide HIN f (List.mem_of_getElem? hf)
        have HTN := hide htn
        have hkE : (k : Int) < (EN.length : Int) := by omega
        obtain ⟨z1, z2, z3, z4⟩ := f
        dsimp only at *
        obtain ⟨_, i1, i2, _, i3, i4, i5, i6⟩ := hin
        have hlen := hen.lt
        have g0 := hen.fr 0
        have g1 := hen.fr 1
        have g2 := hen.fr 2
        have g3 := hen.fr 3
        cases hb : (EN.take k).foldl (bsE x) none with
        | none =>
          rw [hb] at hen hbt
          obtain ⟨d0, d1, d2, d3⟩ := hen.cells
          have HEN2 := hide hen
          unfold enO at d0 d1 d2 d3
          dsimp only [Option.getD] at d0 d1 d2 d3
          by_cases hxz : x ≤ z2
          · have e1 : bsE x none (z1, z2, z3, z4) = some (z1, z2, z3, z4) := by unfold bsE; rw [if_pos ⟨hxz, fun y hy => by cases hy⟩]
            rw [e1] at hbt
            have HBT := hide hbt
            have dx : decide (z2 ≥ x) = true := decide_eq_true hxz
            clear hc1 hf hne p0 p1 p2 p3 hbt hb hmem e1 hen htn
            generalize EN.length = M at *
            go_wp2_with fail
            go_quiet (fail)
            go_wp2
            go_roundw
            case rel => exact ⟨k + 1, by omega, by go_num, by rw [unhide HBT]; exact ((unhide HEN2).drewN nq).set z1 z2 z3 z4, ((((((unhide HTN).trans (turn_drewN _ _ nq)).trans (Turn.setCell _ _ rfl)).trans (Turn.setCell _ _ rfl)).trans (Turn.setCell _ _ rfl)).trans (Turn.setCell _ _ rfl))⟩
            case measure => simp [intOf]; omega
          · have e1 : bsE x none (z1, z2, z3, z4) = none := by unfold bsE; rw [if_neg (fun h => hxz h.1)]
            rw [e1] at hbt
            have HBT := hide hbt
            have dx : decide (z2 ≥ x) = false := decide_eq_false hxz
            clear hc1 hf hne p0 p1 p2 p3 hbt hb hmem e1 hen htn
            generalize EN.length = M at *
            go_wp2_with fail
            go_quiet (fail)
            go_wp2
            go_roundw
            case rel => exact ⟨k + 1, by omega, by go_num, by rw [unhide HBT]; exact (unhide HEN2).drewN nq, (unhide HTN).trans (turn_drewN _ _ nq)⟩
            case measure => simp [intOf]; omega
        | some y =>
          rw [hb] at hen hbt
          have hyi := (unhide HIN y (List.mem_of_mem_take (hmem y hb))).2.1
          obtain ⟨d0, d1, d2, d3⟩ := hen.cells
          have HEN2 := hide hen
          unfold enO at d0 d1 d2 d3
          dsimp only [Option.getD] at d0 d1 d2 d3
          obtain ⟨y1, y2, y3, y4⟩ := y
          dsimp only at d0 d1 d2 d3 hyi
          have hy0 : (y1 == 0) = false := by rw [beq_eq_false_iff_ne]; omega
          by_cases hxz : x ≤ z2
          · have dx : decide (z2 ≥ x) = true := decide_eq_true hxz
            by_cases hzy : z2 < y2
            · have e1 : bsE x (some (y1, y2, y3, y4)) (z1, z2, z3, z4) = some (z1, z2, z3, z4) := by unfold bsE; rw [if_pos ⟨hxz, fun y hy => by cases hy; exact hzy⟩]
              rw [e1] at hbt
              have HBT := hide hbt
              have dz : decide (z2 < y2) = true := decide_eq_true hzy
              clear hc1 hf hne p0 p1 p2 p3 hbt hb hmem e1 hen htn
              generalize EN.length = M at *
              go_wp2_with fail
              go_quiet (fail)
              go_wp2
              go_roundw
              case rel => exact ⟨k + 1, by omega, by go_num, by rw [unhide HBT]; exact ((unhide HEN2).drewN nq).set z1 z2 z3 z4, ((((((unhide HTN).trans (turn_drewN _ _ nq)).trans (Turn.setCell _ _ rfl)).trans (Turn.setCell _ _ rfl)).trans (Turn.setCell _ _ rfl)).trans (Turn.setCell _ _ rfl))⟩
              case measure => simp [intOf]; omega
            · have e1 : bsE x (some (y1, y2, y3, y4)) (z1, z2, z3, z4) = some (y1, y2, y3, y4) := by unfold bsE; rw [if_neg (fun h => hzy (h.2 _ rfl))]
              rw [e1] at hbt
              have HBT := hide hbt
              have dz : decide (z2 < y2) = false := decide_eq_false hzy
              clear hc1 hf hne p0 p1 p2 p3 hbt hb hmem e1 hen htn
              generalize EN.length = M at *
              go_wp2_with fail
              go_quiet (fail)
              go_wp2
              go_roundw
              case rel => exact ⟨k + 1, by omega, by go_num, by rw [unhide HBT]; exact (unhide HEN2).drewN nq, (unhide HTN).trans (turn_drewN _ _ nq)⟩
              case measure => simp [intOf]; omega
          · have e1 : bsE x (some (y1, y2, y3, y4)) (z1, z2, z3, z4) = some (y1, y2, y3, y4) := by unfold bsE; rw [if_neg (fun h => hxz h.1)]
            rw [e1] at hbt
            have HBT := hide hbt
            have dx : decide (z2 ≥ x) = false := decide_eq_false hxz
            clear hc1 hf hne p0 p1 p2 p3 hbt hb hmem e1 hen htn
            generalize EN.length = M at *
            go_wp2_with fail
            go_quiet (fail)
            go_wp2
            go_roundw
            case rel => exact ⟨k + 1, by omega, by go_num, by rw [unhide HBT]; exact (unhide HEN2).drewN nq, (unhide HTN).trans (turn_drewN _ _ nq)⟩
            case measure => simp [intOf]; omega
      · have hkE : k = EN.length := by omega
        rw [hkE, List.take_length] at hen
        change EnB wr G (enO (bsL x EN)) at hen
        rw [unhide HBEST x l1 l2 (unhide HSTP)] at hen
        have hge : ¬ ((k : Int) < (EN.length : Int)) := by omega
        have hB2 : Below w.heap.size w wr := (unhide HB1).trans (htn.below (fun j hj => by rw [hj]; omega) (unhide HB1).size)
        cases l2 with
        | nil =>
          have hms := unhide HSTOP x l1 (unhide HSTP)
          obtain ⟨d0, d1, d2, d3⟩ := hen.cells
          unfold enO at d0
          dsimp only [List.head?, Option.getD] at d0
          have HMS := hide hms
          have HB2 := hide hB2
          have HBSW := hide ((unhide HBS).below hB2)
          clear hen htn hB2 hkE hlt hk hms d1 d2 d3 HMOVE HNEXT HPUT HPE HOB
          go_wp2
          go_ret2
          refine ⟨a, cap, by rw [unhide HMS]; rfl, ?_, unhide HB2, .inl ⟨rfl, rfl⟩⟩
          rw [unhide HMS]
          exact unhide HBSW
        | cons e r =>
          have hen' : EnB wr G e := hen
          by_cases hxe : x < e.2.1
          · obtain ⟨hms, hem⟩ := unhide HMOVE x l1 r e (unhide HSTP) hxe
            have hin := unhide HIN e hem
            obtain ⟨X, rfl⟩ := Int.eq_ofNat_of_zero_le (show 0 ≤ x by omega)
            rw [Int.toNat_natCast] at hms
            obtain ⟨u1, u2, u3, u4, u5⟩ := unhide HPUT e hem X (by omega) hxe
            have HO2 := hide (unhide HOB e hem wr hB2)
            have hst1 := unhide HBO e.1
            generalize objOf L e.1 = OB at *
            obtain ⟨ot, os⟩ := OB
            dsimp only at *
            have hstz : (strOf os).size = os.length := by rw [← length_strL, hst1]
            have HST1 := hide hst1
            generalize strOf os = SS at *
            have HMS := hide hms
            have HU2 := hide u2
            have HU3 := hide u3
            have HU5 := hide u5
            have HU1 := hide u1
            have HEN2 := hide hen'
            have HB2 := hide hB2
            obtain ⟨_, i1, i2, _, i3, i4, i5, i6⟩ := hin
            obtain ⟨z1, z2, z3, z4⟩ := e
            dsimp only at *
            obtain ⟨d0, d1, d2, d3⟩ := hen'.cells
            dsimp only at d0 d1 d2 d3
            have hsz2 : (SS.size : Int) ≤ 1000 := by omega
            have hfit : X + SS.size ≤ N := by omega
            have hz0 : (z1 == 0) = false := by rw [beq_eq_false_iff_ne]; omega
            have HSZ := hide hstz
            clear hen hen' htn hB2 hkE hlt hk hms hst1 u1 u2 u3 u4 u5 hem HMOVE HNEXT HPUT HOB HBEST HSTOP HSTP hstz
            go_wp2_with fail
            refine (unhide HO2).mono ?_
            rintro e w2 ⟨rfl, hb2⟩
            have hen2 := (unhide HEN2).below hb2 (unhide HEN2).lt
            have hB3 := (unhide HB2).trans (hb2.mono (unhide HB2).size)
            clear d0 d1 d2 d3
            obtain ⟨d0, d1, d2, d3⟩ := hen2.cells
            have g1 := hen2.fr 1
            have hlt2 := hen2.lt
            have hen3 : EnB (w2.setCell ⟨G, 1, none⟩ (.int .i64 X)) G (z1, (X : Int), z3, z4) := heap_setCell_same w2 G 1 _ _ (.int .i64 X) hen2
            have hB4 : Below w.heap.size w (w2.setCell ⟨G, 1, none⟩ (.int .i64 X)) := hB3.setCell (by show w.heap.size ≤ G; omega) _
            obtain ⟨f0, f1, f2, f3⟩ := hen3.cells
            dsimp only at d0 d1 d2 d3 f0 f1 f2 f3
            have HPE4 := hide (unhide HPE z1 X z3 z4 _ hB4 (unhide HU1))
            have HB4 := hide hB4
            clear hen2 hen3 hb2 hB3 hB4 HO2 HPE HEN2 HB2 HU1
            go_wp2_with fail
            refine (unhide HPE4).mono ?_
            rintro e w5 ⟨g5, c5, rfl, ho5, hb5⟩
            have hB5 := (unhide HB4).trans (hb5.mono (unhide HB4).size)
            have ho5' := ho5.low (unhide HB4).size
            have HO5 := hide ho5'
            have HB5 := hide hB5
            have hg5 := ho5'.base
            clear ho5 hb5 hB5 ho5' HPE4 HB4 d0 d1 d2 d3 f0 f1 f2 f3 g1
            generalize putL L (z1, (X : Int), z3, z4) = P at *
            go_wp2_with fail
            go_loopw [12] (fun iv wr => ∃ k : Nat, k ≤ SS.size ∧ iv = .int .i64 k ∧ Own wr w.heap.size g5 c5 (layK P X (strL SS) k) ∧ Below w.heap.size w wr) (fun iv _ => SS.size - (intOf iv).toNat)
            case atStart => exact ⟨0, Nat.zero_le _, rfl, unhide HO5, unhide HB5⟩
            case round =>
              obtain ⟨j, hj, rfl, ho, hbel⟩ := hrel
              by_cases hjl : j < SS.size
              · have hcl := ho.cell (X + j) (by rw [length_layK, unhide HU2]; omega)
                have hfz := ho.frozen (X + j)
                have HO6 : Hid (Own (wr.setCell ⟨g5, X + j, none⟩ (.int .u8 (SS[j].toNat : Int))) w.heap.size g5 c5 (layK P X (strL SS) (j + 1))) := hide (by
                  have := ho.set (X + j) ((strL SS).getD j 0)
                  rw [strL_getD SS j hjl] at this
                  unfold layK
                  rw [strL_getD SS j hjl]
                  exact this)
                have HB6 : Hid (Below w.heap.size w (wr.setCell ⟨g5, X + j, none⟩ (.int .u8 (SS[j].toNat : Int)))) := hide (hbel.setCell hg5 _)
                clear ho hbel HO5 HB5
                generalize (layK P X (strL SS) j).getD (X + j) 0 = x0 at *
                go_wp2
                go_roundw
                case rel => exact ⟨j + 1, by omega, by go_num, unhide HO6, unhide HB6⟩
                case measure => simp [intOf]; omega
              · obtain rfl : j = SS.size := by omega
                have e9 : SS.size = (strL SS).length := (length_strL SS).symm
                have hfin : layK P X (strL SS) SS.size = mvB L z1 X := by
                  rw [e9, layK_splice P X (strL SS) (by rw [← e9, unhide HU2]; omega), unhide HU3, unhide HST1]
                rw [hfin] at ho
                have hlm : (mvB L z1 X).length = N := by rw [← hfin, length_layK, unhide HU2]
                have HO6 := hide (ho.bs (unhide HU5) (by rw [hlm]; omega))
                have HB6 := hide hbel
                have HLM := hide hlm
                clear ho hbel HO5 HB5 e9 hfin hlm
                go_wp2
                go_ret2
                refine ⟨some ⟨g5, 0, none⟩, c5, by rw [unhide HMS]; rfl, ?_, unhide HB6, .inr (Fr.at hg5)⟩
                rw [unhide HMS]
                exact unhide HO6
          · obtain ⟨hnx, hex, hez⟩ := unhide HNEXT x l1 r e (unhide HSTP) (by omega)
            have hem : e ∈ EN := by
              have h1 := unhide HBEST x l1 (e :: r) (unhide HSTP)
              exact bs_mem EN e h1
            have hin := unhide HIN e hem
            obtain ⟨d0, d1, d2, d3⟩ := hen'.cells
            have HNX := hide hnx
            have HB2 := hide hB2
            obtain ⟨_, i1, i2, _, i3, i4, i5, i6⟩ := hin
            obtain ⟨z1, z2, z3, z4⟩ := e
            dsimp only at *
            have hz0 : (z1 == 0) = false := by rw [beq_eq_false_iff_ne]; omega
            clear hen hen' htn hB2 hkE hlt hk hnx hem HMOVE HNEXT HPUT HOB HBEST HSTOP HSTP HPE hex
            go_wp2
            go_roundw
            case rel => exact ⟨x + z3, _, _, by go_num, unhide HNX, unhide HB2⟩
            case measure => simp [intOf]; omega
end Go.Proofs.YtopblhmbjdfebaaGreatDoor
/-! Contracts of the reference's second part: Refs, less. (Part of the proofs over who is led to.) -/
namespace Go.Proofs.YtopblhmbjdfebaaGreatDoor
open Go.RowKit
set_option linter.unusedVariables false

theorem any_snoc {l : List Int} {k : Nat} {e x : Int} (h : l[k]? = some e) : (l.take (k + 1)).any (fun y => y == x) = ((l.take k).any (fun y => y == x) || (e == x)) := by
  rw [List.take_add_one, h, List.any_append]
  simp
set_option maxRecDepth 100000 in
set_option maxHeartbeats 4000000 in
theorem sRefs_any (a : Option Addr) (cap : Nat) (L : List Int) (h : Int) (w : World) (hbs : Bs w a cap L) (hf : Fine L) (h1 : 1 ≤ h) (h2 : h ≤ 40) :
    Calls Tryz.prog 102 #[.slice a L.length cap, .int .i64 h] w fun e w' => ∃ v, e = .returned v ∧ Lst inC 1 3 w' w.heap.size v (refsL L h) ∧ Below w.heap.size w w' := by
  obtain ⟨i0, hi0, hz0, hz1, hz2⟩ := info_parts info_inS
  have hbl := hbs.2.2.1
  have hl := hf.len
  have HO := hide (rObject_any a cap L h w hbs hl.1 h1 h2 (fun ht => by have := hf.ent h1 h2 ht; unfold InL; omega))
  have HH := hide (fun (x : Int) (W : World) (hW : Below w.heap.size w W) => sHandle_any a cap L x W (hbs.below hW) hf.len0)
  have HBO := hide (byt_obj (L := L) (h := h) hbs.1)
  have HRL : Hid (refsL L h = refK L (objOf L h).2 (objOf L h).1.toNat) := hide rfl
  have ht15 : -1 ≤ (objOf L h).1 ∧ (objOf L h).1 ≤ 15 := by
    unfold objOf
    by_cases ht : tagAt L h = 0
    · rw [if_pos ht]; decide
    · rw [if_neg ht]
      have := hf.ent h1 h2 ht
      unfold objE
      dsimp only
      omega
  have hol : (objOf L h).2.length ≤ 6400 := by
    unfold objOf
    split
    · decide
    · unfold objE partL
      dsimp only
      rw [List.length_take, List.length_drop]
      omega
  clear hbs hf hl
  generalize refsL L h = RF at *
  generalize (objOf L h).1 = t at *
  generalize (objOf L h).2 = l at *
  obtain ⟨s, hs⟩ : ∃ s, strOf l = s := ⟨_, rfl⟩
  rw [hs] at HO
  have hsl : strL s = l := by rw [← hs]; exact strL_strOf l (unhide HBO)
  have hsz : s.size = l.length := by rw [← hsl, length_strL]
  have HSL := hide hsl
  have hs64 : s.size ≤ 6400 := by omega
  have HSZ := hide hsz
  clear hs hsl hsz hol
  generalize L.length = N at *
  go_enter Tryz.func102, Tryz.ntmps102
  go_wp2_with fail
  refine (unhide HO).mono ?_
  rintro e w1 ⟨rfl, hb1⟩
  have HB1 := hide hb1
  clear hb1 HO
  go_wp2_with fail
  go_loopw [7, 8] (fun v iv wr => ∃ k : Nat, k ≤ 15 ∧ k ≤ l.length ∧ (k : Int) ≤ max t 0 ∧ iv = .int .i64 k ∧ Lst inC 1 3 wr w.heap.size v (refK L l k) ∧ Below w.heap.size w wr) (fun _ iv _ => 16 - (intOf iv).toNat)
  case atStart => exact ⟨0, Nat.zero_le _, Nat.zero_le _, by omega, rfl, Lst.nil _ _, unhide HB1⟩
  case round =>
    obtain ⟨k, hk, hkl, hkt, rfl, hown, hbel⟩ := hrel
    obtain ⟨va, vm, vc, rfl⟩ := hown.shape
    by_cases hlt : (k : Int) < t ∧ k < l.length
    · obtain ⟨hk1, hk2⟩ := hlt
      have hi : k < s.size := by have := unhide HSZ; omega
      have hk3 : (k : Int) < (s.size : Int) := by omega
      obtain ⟨X, hX⟩ : ∃ X : Int, ((s[k]'hi).toNat : Int) = X := ⟨_, rfl⟩
      have hXl : l.getD k 0 = X := by rw [← unhide HSL, strL_getD s k hi]; exact hX
      have hXb : 0 ≤ X ∧ X ≤ 255 := by have := (unhide HBO).getD k; rw [hXl] at this; exact this
      have hT : refK L l (k + 1) = refStep L (refK L l k) X := by rw [refK_succ hk2, hXl]
      have HT := hide hT
      have hrl := refK_len L l k
      have HHX := hide (unhide HH X wr hbel)
      have HOWN := hide hown
      have HBEL := hide hbel
      have hkl2 : k + 1 ≤ l.length := hk2
      clear hXl hT hown hbel
      by_cases hc : chkE L X = 0
      · rw [hc] at HHX
        have HT2 : Hid (refK L l (k + 1) = if (refK L l k).any (fun y => y == X) = true then refK L l k else refK L l k ++ [X]) := hide (by rw [unhide HT]; unfold refStep; rw [if_neg (fun h => h hc)])
        clear hc HT
        generalize hacc : refK L l k = acc at *
        have HACC := hide hacc
        clear hacc
        go_wp2_with fail
        refine (unhide HHX).mono ?_
        rintro e w2 ⟨rfl, hb2⟩
        have hown2 := (unhide HOWN).below hb2
        obtain ⟨va2, vc2, ev, hsl2⟩ := hown2.sls inC_len (by omega)
        simp only [Value.slice.injEq] at ev
        obtain ⟨rfl, rfl, rfl⟩ := ev
        have HSL2 := hide hsl2
        have HO2 := hide hown2
        have HB2 := hide ((unhide HBEL).trans (hb2.mono (unhide HBEL).size))
        have hcap2 := hsl2.2.2.1
        clear hown2 hsl2 hb2 HHX HOWN HBEL
        go_wp2_with fail
        go_loop [11, 12] (fun hv jv => ∃ j : Nat, j ≤ acc.length ∧ jv = .int .i64 j ∧ hv = .bool ((acc.take j).any (fun y => y == X))) (fun _ jv => acc.length - (intOf jv).toNat)
        case atStart => exact ⟨0, Nat.zero_le _, rfl, rfl⟩
        case round =>
          obtain ⟨j, hj, rfl, rfl⟩ := hrel
          by_cases hjl : j < acc.length
          · have hne : acc ≠ [] := by intro e; rw [e] at hjl; simp at hjl
            obtain ⟨b3, o3, rfl, hc3⟩ := (unhide HSL2).2.2.2 hne
            obtain ⟨y, hy⟩ : ∃ y, acc[j]? = some y := ⟨acc[j], List.getElem?_eq_getElem hjl⟩
            have q0 := Sls.num (cap := 0) hc3 hy
            have HSN := hide (any_snoc (x := X) hy)
            clear hc3 hy hne
            generalize (acc.take j).any (fun y => y == X) = hd at *
            cases hd with
            | true =>
              go_wp2
              go_round
              case rel => exact ⟨j + 1, by omega, by go_num, by rw [unhide HSN, Bool.true_or]⟩
              case measure => simp [intOf]; omega
            | false =>
              go_wp2
              go_round
              case rel => exact ⟨j + 1, by omega, by go_num, by rw [unhide HSN, Bool.false_or]⟩
              case measure => simp [intOf]; omega
          · obtain rfl : j = acc.length := by omega
            rw [List.take_length]
            generalize acc.any (fun y => y == X) = hd at *
            cases hd with
            | true =>
              rw [if_pos rfl] at HT2
              go_wp2
              go_roundw
              case rel => exact ⟨k + 1, by omega, by omega, by omega, by go_num, by rw [unhide HT2]; exact unhide HO2, unhide HB2⟩
              case measure => simp [intOf]; omega
            | false =>
              rw [if_neg (by simp)] at HT2
              have HO3 := hide ((unhide HO2).below ((Below.refl _ w2).alloc (Nat.le_refl _) (.cells #[.int .i64 X] 3)))
              have HB3 := hide ((unhide HB2).alloc (unhide HB2).size (.cells #[.int .i64 X] 3))
              have HGN : Hid ((w2.alloc (.cells #[.int .i64 X] 3)).heap[w2.heap.size]? = some (.cells (inC X).toArray 3 (0, 0))) := hide (heap_alloc_new w2 _)
              have hsz2 := (unhide HB2).size
              clear HO2 HB2 HSL2
              go_wp2_with (at_builtin; refine wpList_append_lst rfl _ _ 54 rfl w.heap.size i0 (.int .i64 0) 8 Tryz.underlying54 hi0 hz0 hz1 hz2 rfl (by decide) (by decide) _ _ rfl (unhide HO3) w2.heap.size X rfl (unhide HGN) rfl (inC_one _) (by omega) (by simp; omega) ?_)
              intro v9 w9 hown9 hb9
              rw [← unhide HT2] at hown9
              have HO9 := hide hown9
              have HB9 := hide ((unhide HB3).trans hb9)
              obtain ⟨a9, m9, c9, rfl⟩ := hown9.shape
              clear hown9 hb9 HO3 HB3 HGN
              go_wp2
              go_roundw
              case rel => exact ⟨k + 1, by omega, by omega, by omega, by go_num, unhide HO9, unhide HB9⟩
              case measure => simp [intOf]; omega
      · have HT2 : Hid (refK L l (k + 1) = refK L l k) := hide (by rw [unhide HT]; unfold refStep; rw [if_pos hc])
        have hcb : (chkE L X == 0) = false := beq_eq_false_iff_ne.2 hc
        clear hc HT
        generalize chkE L X = CC at *
        go_wp2_with fail
        refine (unhide HHX).mono ?_
        rintro e w2 ⟨rfl, hb2⟩
        have HO2 := hide ((unhide HOWN).below hb2)
        have HB2 := hide ((unhide HBEL).trans (hb2.mono (unhide HBEL).size))
        clear hb2 HHX HOWN HBEL
        go_wp2
        go_roundw
        case rel => exact ⟨k + 1, by omega, by omega, by omega, by go_num, by rw [unhide HT2]; exact unhide HO2, unhide HB2⟩
        case measure => simp [intOf]; omega
    · have hfin : RF = refK L l k := by
        rw [unhide HRL]
        by_cases hq : (k : Int) < t
        · have : k = l.length := by omega
          rw [this]
          exact refK_all (by omega)
        · have : t.toNat = k := by omega
          rw [this]
      have HFIN := hide hfin
      have HOWN := hide hown
      have HBEL := hide hbel
      have hcase : ¬ (k : Int) < t ∨ ((k : Int) < t ∧ ¬ (k : Int) < (s.size : Int)) := by have := unhide HSZ; omega
      clear hfin hown hbel hlt
      rcases hcase with hc | ⟨hc, hc2⟩
      all_goals
        go_wp2
        go_ret
        exact ⟨_, rfl, by rw [unhide HFIN]; exact unhide HOWN, unhide HBEL⟩
end Go.Proofs.YtopblhmbjdfebaaGreatDoor
/-! Contracts of the reference's second part: less, has. (Part of the proofs over who is led to, and over merging.) -/
namespace Go.Proofs.YtopblhmbjdfebaaGreatDoor
open Go.RowKit
set_option linter.unusedVariables false

set_option maxHeartbeats 1000000 in
theorem sLess_any (a1 a2 : Option Addr) (c1 c2 : Nat) (A B : List Int) (w : World) (hA : Sls inC 1 w a1 c1 A) (hB : Sls inC 1 w a2 c2 B) :
    Calls Tryz.prog 103 #[.slice a1 A.length c1, .slice a2 B.length c2] w fun e w' => e = .returned (.bool (wLess A B)) ∧ ∃ n, w' = w.drewN n := by
  have hla := hA.2.2.1
  have hlb := hB.2.2.1
  by_cases hl : A.length = B.length
  · have e1 : wLess A B = lexL A B := by unfold wLess; rw [if_pos hl]
    rw [e1, ← hl]
    have HA := hide hA
    have HB := hide hB
    have HL := hide hl
    obtain ⟨R, hR⟩ : ∃ R, lexL A B = R := ⟨_, rfl⟩
    rw [hR]
    have HR : Hid (lexL (A.drop 0) (B.drop 0) = R) := hide hR
    clear hA hB hl e1 hR hlb
    go_enter Tryz.func103, Tryz.ntmps103
    go_wp2_with fail
    go_loopw [5] (fun iv wr => ∃ k n : Nat, k ≤ A.length ∧ iv = .int .i64 k ∧ lexL (A.drop k) (B.drop k) = R ∧ wr = w.drewN n) (fun iv _ => A.length - (intOf iv).toNat)
    case atStart => exact ⟨0, 0, Nat.zero_le _, rfl, unhide HR, rfl⟩
    case round =>
      obtain ⟨k, n, hk, rfl, hrest, rfl⟩ := hrel
      by_cases hlt : k < A.length
      · have hltB : k < B.length := by have := unhide HL; omega
        have hneA : A ≠ [] := by intro e; rw [e] at hlt; simp at hlt
        have hneB : B ≠ [] := by intro e; rw [e] at hltB; simp at hltB
        obtain ⟨b1, o1, rfl, hc1⟩ := (unhide HA).2.2.2 hneA
        obtain ⟨b2, o2, rfl, hc2⟩ := (unhide HB).2.2.2 hneB
        obtain ⟨x, hx⟩ : ∃ x, A[k]? = some x := ⟨A[k], List.getElem?_eq_getElem hlt⟩
        obtain ⟨y, hy⟩ : ∃ y, B[k]? = some y := ⟨B[k], List.getElem?_eq_getElem hltB⟩
        have q1 := Sls.num (cap := 0) hc1 hx
        have q2 := Sls.num (cap := 0) hc2 hy
        have hstep := lexL_at hx hy
        rw [hrest] at hstep
        clear hc1 hc2 hx hy hneA hneB hltB hrest
        by_cases hxy : x = y
        · subst hxy
          rw [if_pos rfl] at hstep
          have HST := hide hstep
          clear hstep
          go_wp2_with fail
          go_quiet (fail)
          go_wp2
          go_roundw
          case rel => exact ⟨k + 1, n + nq, by omega, by go_num, (unhide HST).symm, rfl⟩
          case measure => simp [intOf]; omega
        · rw [if_neg hxy] at hstep
          have HST := hide hstep
          have hxb : (x == y) = false := beq_eq_false_iff_ne.2 hxy
          clear hstep
          go_wp2_with fail
          go_quiet (fail)
          go_wp2_with fail
          go_quiet (fail)
          go_wp2
          go_ret
          refine ⟨by rw [unhide HST]; rfl, ?_⟩
          exact ⟨_, by rw [World.drewN_drewN, World.drewN_drewN]⟩
      · obtain rfl : k = A.length := by omega
        have hf : R = false := by
          rw [← hrest, List.drop_length]
          cases B.drop A.length <;> rfl
        have HF := hide hf
        clear hrest hf
        go_wp2
        go_ret
        exact ⟨by rw [unhide HF]; rfl, n, rfl⟩
  · have e1 : wLess A B = decide (A.length < B.length) := by unfold wLess; rw [if_neg hl]
    rw [e1]
    have hlI : ((A.length : Int) == (B.length : Int)) = false := beq_eq_false_iff_ne.2 (by omega)
    clear hA hB e1 hl
    generalize A.length = NA at *
    generalize B.length = NB at *
    go_enter Tryz.func103, Tryz.ntmps103
    go_wp2
    go_ret
    exact ⟨rfl, 0, rfl⟩
/-- The handles up to k whose object is another one. -/
def mvK (A B : List Int) : Nat → List Int
  | 0 => []
  | k + 1 => mvK A B k ++ if objOf A ((k : Int) + 1) = objOf B ((k : Int) + 1) then [] else [(k : Int) + 1]
theorem mvK_len (A B : List Int) : ∀ k, (mvK A B k).length ≤ k := by
  intro k
  induction k with
  | zero => simp [mvK]
  | succ k ih =>
    unfold mvK
    rw [List.length_append]
    split <;> simp <;> omega
end Go.Proofs.YtopblhmbjdfebaaGreatDoor
/-! Contracts of the reference's second part: Ways. (Part of the proofs over who is led to.) -/
namespace Go.Proofs.YtopblhmbjdfebaaGreatDoor
open Go.RowKit
set_option linter.unusedVariables false

/-! ### plain: pass by pass -/
theorem stR_snoc (s : List (List Int) × Bool) (h : Int) {rs : List Int} {j : Nat} {x : Int} (hx : rs[j]? = some x) : stR s h (rs.take (j + 1)) = st1 (stR s h (rs.take j)) h x := by
  unfold stR
  rw [List.take_add_one, hx, List.foldl_append]
  rfl
theorem gW_nat (W : List (List Int)) (j : Nat) : gW W (j : Int) = W.getD j [] := by unfold gW; rw [Int.toNat_natCast]
theorem wi_take {R : List Int} {k : Nat} {x : Int} (hx : R[k]? = some x) : wi (R.take (k + 1)) = (wi (R.take k)).set x.toNat [x] := by
  rw [List.take_add_one, hx]
  exact wi_snoc _ _
/-- Is it true? as a number. -/
def boN (v : Value) : Nat := match v with | .bool true => 1 | _ => 0
theorem Wt.turn {w w' : World} {t : Nat} {W : List (List Int)} (h : Wt w t W) (hb : Below w.heap.size w w') : Wt w' t W := h.below hb
theorem Sls.turnT {α : Type} {enc : α → List Value} {k : Nat} {w w' : World} {t : Nat} {a : Option Addr} {cap : Nat} {l : List α} (h : Sls enc k w a cap l) (hk : ∀ x, (enc x) ≠ []) (ht : Turn (fun k => k = t) (fun k => k = t) w w') (hn : ∀ b off, a = some ⟨b, off, none⟩ → l ≠ [] → b ≠ t) : Sls enc k w' a cap l := by
  refine h.same (fun b off e hne => ht.block b ?_ (hn b off e hne))
  obtain ⟨b', off', e', hc⟩ := h.2.2.2 hne
  rw [e] at e'
  simp only [Option.some.injEq, Addr.mk.injEq, and_true] at e'
  obtain ⟨rfl, rfl⟩ := e'
  cases l with
  | nil => exact absurd rfl hne
  | cons x r =>
    cases hx : enc x with
    | nil => exact absurd hx (hk x)
    | cons u v =>
      have q := hc 0 x rfl 0 u (by rw [hx]; rfl)
      exact block_lt_of_cell q
theorem ne_inC (x : Int) : inC x ≠ [] := by unfold inC; simp
theorem ne_roC (x : (ByteArray × Int)) : roC x ≠ [] := by unfold roC; simp
/-- A slice of one number that was just made. -/
theorem sls_one (w : World) (x : Int) : Sls inC 1 (w.alloc (.cells #[.int .i64 x] 3)) (some ⟨w.heap.size, 0, none⟩) 1 [x] := by
  refine ⟨Nat.le_refl _, fun e => (by cases e), by simp, fun _ => ⟨w.heap.size, 0, rfl, fun i y hy j u hj => ?_⟩⟩
  have hi : i = 0 := by have := (List.getElem?_eq_some_iff.1 hy).1; simp at this; exact this
  subst hi
  obtain rfl : x = y := by simpa using hy
  have hj0 : j = 0 := by have := (List.getElem?_eq_some_iff.1 hj).1; simp [inC] at this; exact this
  subst hj0
  rw [cell_of_row _ _ _ _ _ _ (heap_alloc_new w _)]
  simpa [inC] using hj
set_option maxRecDepth 100000 in
set_option maxHeartbeats 8000000 in
theorem sWays_any (a : Option Addr) (cap : Nat) (L : List Int) (w : World) (hbs : Bs w a cap L) (hf : Fine L) :
    Calls Tryz.prog 63 #[.slice a L.length cap] w fun e w' => ∃ t W, e = .returned (.slice (some ⟨t, 0, none⟩) 41 41) ∧ Wt w' t W ∧ W.length = 41 ∧ (∀ h, 0 ≤ h → gW W h = wyL L h) ∧ w.heap.size ≤ t ∧ Below w.heap.size w w' := by
  obtain ⟨i0, hi0, hz0, hz1, hz2⟩ := info_parts info_inS
  have hl := hf.len
  have hbl := hbs.2.2.1
  have hr := rtH_dg hf
  have hrf := refsL_dg L
  have HR := hide (fun (W : World) (hW : Below w.heap.size w W) => rRoots_any a cap L W (hbs.below hW) hl.1 hl.2)
  have HRE := hide (fun (h : Int) (W : World) (hW : Below w.heap.size w W) (h1 : 1 ≤ h) (h2 : h ≤ 40) => sRefs_any a cap L h W (hbs.below hW) hf h1 h2)
  have HRH : Hid (rtH L = (rootsK L 8).map (·.2)) := hide rfl
  have hrl := rootsK_len L 8
  have HFIN : Hid (∀ W, WInv (rtH L) (refsL L) W → (stP (refsL L) W 40).2 = false → ∀ h, gW W h = wyL L h) := hide (fun W I hz h => (still_of hr hrf I hz).eq hr hrf h)
  have HPAS : Hid (∀ W, WInv (rtH L) (refsL L) W → ∀ k, k ≤ 40 → Prog (rtH L) (refsL L) (W, false) (stP (refsL L) W k)) := hide (fun W I k hk => (stP_prog hr hrf I k hk).1)
  have HSTR : Hid (∀ (h : Int) (s : List (List Int) × Bool), 0 ≤ h → WInv (rtH L) (refsL L) s.1 → gW s.1 h ≠ [] → ∀ j, Prog (rtH L) (refsL L) s (stR s h ((refsL L h).take j))) := hide (fun h s hh I hw j => (stR_prog hr hrf hh _ s I hw (fun x hx => List.mem_of_mem_take hx)).1)
  have HDW : Hid (∀ W, WInv (rtH L) (refsL L) W → ∀ h, 0 ≤ h → Dg (gW W h) ∧ (gW W h).length ≤ 41) := hide (fun W I h hh => by
    refine ⟨?_, ?_⟩
    · by_cases e : gW W h = []
      · rw [e]; intro x hx; cases hx
      · exact ((I.way h hh e).dg hr hrf).1
    · have h1 := I.short h hh
      have h2 := cnW_le W
      rw [I.len] at h2
      omega)
  have HW0 := hide (wi_inv (refs := refsL L) hr)
  have HRD := hide hr
  have HRF := hide hrf
  have HRL : Hid (∀ h, 1 ≤ h → h ≤ 40 → (refsL L h).length ≤ 15) := hide (fun h h1 h2 => by
    refine Nat.le_trans (refK_len L _ _) ?_
    unfold objOf
    split
    · decide
    · rename_i ht
      have := hf.ent h1 h2 ht
      unfold objE
      dsimp only
      omega)
  clear hbs hf hr hrf
  generalize rtH L = RH at *
  generalize refsL L = rf at *
  generalize rootsK L 8 = R at *
  generalize hN : L.length = N at *
  clear hN
  go_enter Tryz.func63, Tryz.ntmps63
  go_wp2_with (at_make; refine wpList_make_ways rfl _ _ 118 rfl Tryz.underlying118 _ _ _ _ rfl rfl rfl rfl ?_)
  intro w1 hwt1 hs1 hb1
  have HR1 := hide (unhide HR w1 hb1)
  have HWT1 : Hid (Wt w1 w.heap.size (wi (RH.take 0))) := hide hwt1
  have HB1 := hide hb1
  obtain ⟨t, ht⟩ : ∃ t, t = w.heap.size := ⟨_, rfl⟩
  rw [← ht] at HWT1 ⊢
  have htl : t < w1.heap.size := by omega
  have HTE := hide ht
  clear hwt1 hb1 HR hs1 ht
  go_wp2_with fail
  refine (unhide HR1).mono ?_
  rintro e w2 ⟨v2, rfl, hl2, hb2⟩
  have HBLK := hide (fun k (hk : v2.ownBlock = some k) => hl2.block k hk)
  obtain ⟨a2, c2, rfl, hsl2⟩ := hl2.sls roC_len (by omega)
  have HWT2 := hide ((unhide HWT1).below hb2)
  have HB2 := hide ((unhide HB1).trans (hb2.mono (unhide HB1).size))
  have HAP : Hid (∀ b off, a2 = some ⟨b, off, none⟩ → R ≠ [] → b ≠ t) := hide (fun b off e _ => by
    have := unhide HBLK b (by rw [e]; rfl)
    omega)
  have HS2 := hide hsl2
  have hcl2 := hsl2.2.2.1
  have htl2 : t < w2.heap.size := (unhide HWT2).lt
  clear hl2 hb2 hsl2 HR1 HWT1 HB1 HBLK
  go_wp2_with fail
  go_loopw [5] (fun iv wr => ∃ k : Nat, k ≤ R.length ∧ iv = .int .i64 (k : Int) ∧ Wt wr t (wi (RH.take k)) ∧ Turn (fun k => k = t) (fun k => k = t) w2 wr) (fun iv _ => R.length - (intOf iv).toNat)
  case atStart => exact ⟨0, Nat.zero_le _, rfl, unhide HWT2, Turn.refl _ _⟩
  case round =>
    obtain ⟨k, hk, rfl, hwt, htn⟩ := hrel
    by_cases hlt : k < R.length
    · obtain ⟨b1, o1, rfl, hc1⟩ := ((unhide HS2).turnT ne_roC htn (unhide HAP)).2.2.2 (by intro e; rw [e] at hlt; simp at hlt)
      obtain ⟨r, hr⟩ : ∃ r, R[k]? = some r := ⟨R[k], List.getElem?_eq_getElem hlt⟩
      obtain ⟨q0, q1⟩ := Sls.root (cap := 0) hc1 hr
      have hrx : RH[k]? = some r.2 := by rw [unhide HRH, List.getElem?_map, hr]; rfl
      have hxb := unhide HRD r.2 (List.mem_of_getElem? hrx)
      have hwx := wi_take hrx
      obtain ⟨s, x⟩ := r
      dsimp only at *
      obtain ⟨X, rfl⟩ := Int.eq_ofNat_of_zero_le (show 0 ≤ x by omega)
      rw [Int.toNat_natCast] at hwx
      have hwl : (wi (RH.take k)).length = 41 := wi_len _
      obtain ⟨ta, tc, htc, _⟩ := hwt.at (i := X) (by omega)
      have htf := hwt.fr X
      have hwt2 := (hwt.below ((Below.refl _ _).alloc (Nat.le_refl _) (.cells #[.int .i64 (X : Int)] 3))).set (i := X) (by omega) (sls_one _ (X : Int))
      rw [← hwx, World.setCell_alloc_past _ _ _ _ hwt.lt] at hwt2
      have hwt2 := hwt2.below (below_drew (Below.refl _ _))
      have hb3 := htn.trans (((Turn.setCell (S := fun k => k = t) wr (a := ⟨t, X, none⟩) (.slice (some ⟨wr.heap.size, 0, none⟩) 1 1) rfl).trans (Turn.alloc _ _ (.cells #[.int .i64 (X : Int)] 3))).trans (Turn.drew _ _))
      have HTN3 := hide hb3
      have hneR : R ≠ [] := by intro e; rw [e] at hlt; simp at hlt
      have hne : b1 ≠ t := unhide HAP b1 o1 rfl hneR
      have HG2 : Hid (b1 < w2.heap.size) := hide (by
        obtain ⟨b', off', e', hc'⟩ := (unhide HS2).2.2.2 hneR
        simp only [Option.some.injEq, Addr.mk.injEq, and_true] at e'
        obtain ⟨rfl, rfl⟩ := e'
        exact block_lt_of_cell (hc' k _ hr 0 _ rfl))
      have htl3 := hwt.lt
      have HWT3 := hide hwt2
      have hq9 := ((unhide HTN3).block b1 (unhide HG2) hne)
      have g1 := block_lt_of_cell q1
      have hq8 : (((wr.setCell ⟨t, X, none⟩ (.slice (some ⟨wr.heap.size, 0, none⟩) 1 1)).alloc (.cells #[.int .i64 (X : Int)] 3)).drew).cell? ⟨b1, o1 + k * 2 + 1, none⟩ = some (.int .i64 (X : Int)) :=
        (World.cell?_of_block (a := ⟨b1, o1 + k * 2 + 1, none⟩) (hq9.trans (htn.block b1 (unhide HG2) hne).symm)).trans q1
      clear hq9 hb3
      have x0 : (0 : Int) ≤ (X : Int) := by omega
      have x1 : (X : Int) < 41 := by omega
      clear hwt2 htn hwt hc1 hr hrx hwx hwl q0
      go_wp2_with fail
      go_region_held3 (fun w' => w'.cell? ⟨b1, o1 + k * 2 + 1, none⟩ = some (.int .i64 (X : Int))) (first | go_keep | exact hq8) (fail)
      generalize (((wr.setCell ⟨t, X, none⟩ (.slice (some ⟨wr.heap.size, 0, none⟩) 1 1)).alloc (.cells #[.int .i64 (X : Int)] 3)).drew) = w9 at *
      clear hq8 htc htf
      go_wp2
      go_roundw
      case rel => exact ⟨k + 1, by omega, by go_num, unhide HWT3, unhide HTN3⟩
      case measure => simp [intOf]; omega
    · have hkR : k = R.length := by omega
      have hRl : RH.length = R.length := by rw [unhide HRH, List.length_map]
      have hwi : wi (RH.take k) = wi RH := by rw [hkR, ← hRl, List.take_length]
      rw [hwi] at hwt
      have hge : ¬ ((k : Int) < (R.length : Int)) := by omega
      have HWTW := hide hwt
      have HBW := hide ((unhide HB2).trans (htn.below (B := w.heap.size) (fun k hk => by rw [hk, unhide HTE]; exact Nat.le_refl _) (unhide HB2).size))
      clear hwt htn hkR hRl hwi hlt hk HWT2 HAP HS2 HRH HRD HB2
      generalize wi RH = Wz at *
      go_wp2_with fail
      go_loopw [6, 7, 8, 9, 10, 11] (fun bv _ _ _ _ _ wr => ∃ (b : Bool) (W : List (List Int)), bv = .bool b ∧ WInv RH rf W ∧ (b = false → (stP rf W 40).2 = false) ∧ Wt wr t W ∧ Below w.heap.size w wr) (fun bv _ _ _ _ _ wr => 2 * muO wr t + boN bv)
      case atStart => exact ⟨true, Wz, rfl, unhide HW0, fun h => (by cases h), unhide HWTW, unhide HBW⟩
      case round =>
        obtain ⟨b, W, rfl, hI, hbf, hwt, hbel⟩ := hrel
        have hmu := hwt.mu
        cases b with
        | false =>
          have HX := hide (unhide HFIN W hI (hbf rfl))
          have HWT := hide hwt
          have HBEL := hide hbel
          have HLN := hide hI.len
          clear hI hbf hwt hbel hmu
          go_wp2
          go_ret
          exact ⟨t, W, rfl, unhide HWT, unhide HLN, fun h _ => unhide HX h, by rw [unhide HTE]; exact Nat.le_refl _, unhide HBEL⟩
        | true =>
          have HI := hide hI
          have HMU := hide hmu
          have HWT := hide hwt
          have HBEL := hide hbel
          have HP := hide (unhide HPAS W hI)
          have HST0 : Hid (stP rf W 0 = (W, false)) := hide rfl
          have HSTS : Hid (∀ k, stP rf W (k + 1) = stH rf (stP rf W k) ((k : Int) + 1)) := hide (fun k => rfl)
          obtain ⟨wa, hwa⟩ : ∃ wa, wa = wr := ⟨_, rfl⟩
          rw [← hwa] at HMU
          have HWA := hide hwa
          clear hI hbf hwt hbel hmu hwa
          go_wp2_with fail
          generalize hsp : stP rf W = sp at *
          have HSP := hide hsp
          clear hsp
          go_loopw [6, 7, 8, 9, 10, 11] (fun bv hv _ _ _ _ wr => ∃ k : Nat, k ≤ 40 ∧ hv = .int .i64 ((k : Int) + 1) ∧ bv = .bool (sp k).2 ∧ Wt wr t (sp k).1 ∧ Below w.heap.size w wr) (fun _ hv _ _ _ _ _ => 41 - (intOf hv).toNat)
          case atStart => exact ⟨0, Nat.zero_le _, rfl, by rw [unhide HST0], by rw [unhide HST0]; exact unhide HWT, unhide HBEL⟩
          case round =>
            obtain ⟨k, hk, rfl, rfl, hwt, hbel⟩ := hrel
            by_cases hlt : k < 40
            · obtain ⟨K, hK⟩ : ∃ K : Nat, K = k + 1 := ⟨_, rfl⟩
              have hKi : (k : Int) + 1 = (K : Int) := by omega
              rw [hKi]
              have hSS := unhide HSTS k
              rw [hKi] at hSS
              have hpr := unhide HP k hk
              have hIk := hpr.inv
              have hlen := hIk.len
              obtain ⟨ta, tc, htc, hts⟩ := hwt.at (i := K) (by omega)
              have HRE5 := hide (unhide HRE (K : Int) wr hbel (by omega) (by omega))
              have hrl5 := unhide HRL (K : Int) (by omega) (by omega)
              have k0 : (0 : Int) ≤ (K : Int) := by omega
              have k1 : (K : Int) < 41 := by omega
              have k2 : (K : Int) ≤ 40 := by omega
              have hgK : gW (sp k).1 (K : Int) = (sp k).1.getD K [] := gW_nat _ _
              have HK := hide hK
              have hgl := hts.2.2.1
              have HIK := hide hIk
              have HLEN := hide hlen
              have HBEL3 := hide hbel
              have HWT3 := hide hwt
              by_cases hg0 : (sp k).1.getD K [] = []
              · have HE : Hid (sp (k + 1) = sp k) := hide (by rw [hSS]; unfold stH; rw [if_pos (by rw [hgK]; exact hg0)])
                rw [hg0] at htc
                have htc0 : wr.cell? ⟨t, K, none⟩ = some (.slice ta 0 tc) := htc
                clear hSS hpr hIk hlen htc hts hKi hK hwt hbel hgK hg0 hgl HRE5 hrl5 HIK
                go_wp2
                go_roundw
                case rel => exact ⟨k + 1, by omega, by have := unhide HK; go_num, by rw [unhide HE], by rw [unhide HE]; exact unhide HWT3, unhide HBEL3⟩
                case measure => simp [intOf]; have := unhide HK; omega
              · have hpos : 0 < ((sp k).1.getD K []).length := List.length_pos_iff.2 hg0
                have hlz : (((((sp k).1.getD K []).length : Nat) : Int) == 0) = false := beq_eq_false_iff_ne.2 (by omega)
                have HE : Hid (sp (k + 1) = stR (sp k) (K : Int) (rf (K : Int))) := hide (by rw [hSS]; unfold stH; rw [if_neg (by rw [hgK]; exact hg0)])
                have HPJ := hide (unhide HSTR (K : Int) (sp k) k0 hIk (by rw [hgK]; exact hg0))
                have HDG := hide (fun x hx => unhide HRF (K : Int) x hx)
                clear hSS hpr hIk hlen hts hKi hK hwt hbel hgK hg0
                generalize ((sp k).1.getD K []).length = gl at *
                go_wp2_with fail
                refine (unhide HRE5).mono ?_
                rintro e w5 ⟨v5, rfl, hl5, hb5⟩
                obtain ⟨a5, c5, rfl, hsl5⟩ := hl5.sls inC_len (by omega)
                have HWT5 := hide ((unhide HWT3).below hb5)
                have HB5 := hide ((unhide HBEL3).trans (hb5.mono (unhide HBEL3).size))
                have HAP5 := hide ((unhide HWT5).apart hsl5)
                have HS5 := hide hsl5
                have hcl5 := hsl5.2.2.1
                clear hl5 hb5 hsl5 htc hlz hpos hgl HRE5 HWT3 HBEL3
                generalize rf (K : Int) = r at *
                have HR0 : Hid (stR (sp k) (K : Int) (r.take 0) = sp k) := hide rfl
                have HRS := hide (fun j x hx => stR_snoc (sp k) (K : Int) (rs := r) (j := j) (x := x) hx)
                generalize hsj : (fun j => stR (sp k) (K : Int) (r.take j)) = sj at *
                have HSJ : Hid (∀ j, stR (sp k) (K : Int) (r.take j) = sj j) := hide (fun j => by rw [← hsj])
                clear hsj
                go_wp2_with fail
                go_loopw [6, 9, 10, 11] (fun bv iv _ _ wr => ∃ j : Nat, j ≤ r.length ∧ iv = .int .i64 (j : Int) ∧ bv = .bool (sj j).2 ∧ Wt wr t (sj j).1 ∧ Turn (fun k => k = t) (fun k => k = t) w5 wr) (fun _ iv _ _ _ => r.length - (intOf iv).toNat)
                case atStart => exact ⟨0, Nat.zero_le _, rfl, by rw [← unhide HSJ, unhide HR0], by rw [← unhide HSJ, unhide HR0]; exact unhide HWT5, Turn.refl _ _⟩
                case round =>
                  obtain ⟨j, hj, rfl, rfl, hwt, htn⟩ := hrel
                  by_cases hjl : j < r.length
                  · have hne : r ≠ [] := by intro e; rw [e] at hjl; simp at hjl
                    have hS := (unhide HS5).turnT ne_inC htn (unhide HAP5)
                    obtain ⟨b3, o3, rfl, hc3⟩ := hS.2.2.2 hne
                    obtain ⟨x, hx⟩ : ∃ x, r[j]? = some x := ⟨r[j], List.getElem?_eq_getElem hjl⟩
                    have hxb := unhide HDG x (List.mem_of_getElem? hx)
                    obtain ⟨X, rfl⟩ := Int.eq_ofNat_of_zero_le (show 0 ≤ x by omega)
                    have q0 := Sls.num (cap := 0) hc3 hx
                    have hI := (unhide HPJ j).inv
                    rw [unhide HSJ] at hI
                    have hst := unhide HRS j _ hx
                    rw [unhide HSJ, unhide HSJ] at hst
                    have hl41 := hI.len
                    obtain ⟨a1, c1, hk1, hs1⟩ := hwt.at (i := K) (by omega)
                    obtain ⟨a3, c3, hk3, hs3⟩ := hwt.at (i := X) (by omega)
                    have hfr := hwt.fr X
                    obtain ⟨d1, d2⟩ := unhide HDW _ hI (K : Int) k0
                    obtain ⟨d3, d4⟩ := unhide HDW _ hI (X : Int) (by omega)
                    rw [gW_nat] at d1 d2 d3 d4
                    have hshB : shB (sj j).1 (K : Int) (X : Int) = (decide ((sj j).1.getD X [] = []) || decide (rk ((sj j).1.getD K [] ++ [(X : Int)]) < rk ((sj j).1.getD X []))) := by unfold shB; rw [gW_nat, gW_nat]
                    have hset : ((sj j).1.set (X : Int).toNat (gW (sj j).1 (K : Int) ++ [(X : Int)]), true) = ((sj j).1.set X ((sj j).1.getD K [] ++ [(X : Int)]), true) := by rw [gW_nat, Int.toNat_natCast]
                    unfold st1 at hst
                    rw [hshB, hset] at hst
                    have HST := hide hst
                    have HWT := hide hwt
                    have HTN := hide htn
                    have HD1 := hide d1
                    have HD3 := hide d3
                    have HS1 := hide hs1
                    have HS3 := hide hs3
                    have HX40 := hide hxb
                    have x0 : (0 : Int) ≤ (X : Int) := by omega
                    have x1 : (X : Int) < 41 := by omega
                    have hlt5 : t < wr.heap.size := hwt.lt
                    have g3 := block_lt_of_cell q0
                    have hXl : X < (sj j).1.length := by omega
                    clear hst hshB hset hwt htn hI hs1 hs3 hc3 hx hne hS hxb d1 d3
                    generalize (sj j).1.getD K [] = gh at *
                    generalize (sj j).1.getD X [] = gx at *
                    generalize hsw : (sj j).1 = sw at *
                    generalize hsb : (sj j).2 = sb at *
                    have HSW := hide hsw
                    have HSB := hide hsb
                    clear hsw hsb
                    go_wp2_with (at_builtin; refine wpList_append_sls rfl _ _ 54 rfl wr.heap.size i0 (.int .i64 0) 8 Tryz.underlying54 hi0 hz0 hz1 hz2 rfl (by decide) (by decide) (.slice none 0 0) [] rfl (Lst.nil _ _) a1 c1 gh rfl (unhide HS1) inC_len inC_one (by simp; omega) (Nat.le_refl _) ?_)
                    intro v6 w6 hown6 hb6
                    try rw [List.nil_append] at hown6
                    have q6 := (hb6.cell (p := ⟨b3, o3 + j, none⟩) g3).trans q0
                    have hb7 : Below w6.heap.size w6 (w6.alloc (.cells #[.int .i64 (X : Int)] 3)) := (Below.refl _ _).alloc (Nat.le_refl _) _
                    have HO7 := hide (hown6.below hb7)
                    have HB7 := hide (hb6.trans (hb7.mono hb6.size))
                    have HG7 : Hid ((w6.alloc (.cells #[.int .i64 (X : Int)] 3)).heap[w6.heap.size]? = some (.cells (inC (X : Int)).toArray 3 (0, 0))) := hide (heap_alloc_new w6 _)
                    have hsz6 := hb6.size
                    have hgh : gh.length ≤ 1000 := by omega
                    obtain ⟨a6, m6, c6, rfl⟩ := hown6.shape
                    clear hown6 hb6 hb7
                    go_wp2_with (at_builtin; refine wpList_append_lst rfl _ _ 54 rfl wr.heap.size i0 (.int .i64 0) 8 Tryz.underlying54 hi0 hz0 hz1 hz2 rfl (by decide) (by decide) _ _ rfl (unhide HO7) w6.heap.size (X : Int) rfl (unhide HG7) rfl (inC_one _) hgh (by simp; omega) ?_)
                    intro v8 w8 hown8 hb8
                    have hb8' := (unhide HB7).trans hb8
                    have q8 := (hb8'.cell (p := ⟨b3, o3 + j, none⟩) g3).trans q0
                    have k8 := (hb8'.cell (p := ⟨t, X, none⟩) hlt5).trans hk3
                    have HS8 := hide ((unhide HS3).below hb8')
                    have HWT8 := hide ((unhide HWT).below hb8')
                    have HTN8 := hide ((unhide HTN).trans (Turn.of_below hb8'))
                    have hnl : (gh ++ [(X : Int)]).length = gh.length + 1 := by simp
                    obtain ⟨a8, c8, rfl, hsl8⟩ := hown8.sls inC_len (by omega)
                    have HN8 := hide hsl8
                    have HLS := hide (sLess_any a8 a3 c8 c3 (gh ++ [(X : Int)]) gx w8 hsl8 (unhide HS8))
                    have hwl : wLess (gh ++ [(X : Int)]) gx = decide (rk (gh ++ [(X : Int)]) < rk gx) := wLess_rk ((unhide HD1).snoc (unhide HX40).1 (unhide HX40).2) (unhide HD3)
                    rw [hwl] at HLS
                    have hgl8 := hsl8.2.2.1
                    have hgx8 := (unhide HS8).2.2.1
                    clear hown8 hb8 hb8' hsl8 hnl hwl HO7 HB7 HG7 q6 q0 hk1 hk3 HWT HTN HS1 HS3 HX40
                    generalize hgn : gh ++ [(X : Int)] = gn at *
                    clear hgn
                    generalize decide (rk gn < rk gx) = lessB at *
                    have HFIN2 : Hid (∀ w9, Wt w9 t sw → Sls inC 1 w9 a8 c8 gn → Wt (w9.setCell ⟨t, X, none⟩ (.slice a8 gn.length c8)) t (sw.set X gn)) := hide (fun w9 h1 h2 => h1.set hXl h2)
                    by_cases hg0 : gx = []
                    · subst hg0
                      have HE9 : Hid (sj (j + 1) = (sw.set X gn, true)) := hide (by rw [unhide HST]; simp)
                      have k8' : w8.cell? ⟨t, X, none⟩ = some (.slice a3 0 c3) := k8
                      have f8 := (unhide HWT8).fr X
                      have HW9 := hide (unhide HFIN2 w8 (unhide HWT8) (unhide HN8))
                      have HT9 := hide ((unhide HTN8).trans (Turn.setCell (S := fun k => k = t) w8 (a := ⟨t, X, none⟩) (.slice a8 gn.length c8) rfl))
                      clear k8 HLS HST HWT8 HTN8 HN8 HFIN2
                      generalize gn.length = gnl at *
                      go_wp2
                      go_roundw
                      case rel => exact ⟨j + 1, by omega, by go_num, by rw [unhide HE9], by rw [unhide HE9]; exact unhide HW9, unhide HT9⟩
                      case measure => simp [intOf]; omega
                    · have hpx : 0 < gx.length := List.length_pos_iff.2 hg0
                      have hlz : (((gx.length : Nat) : Int) == 0) = false := beq_eq_false_iff_ne.2 (by omega)
                      rw [decide_eq_false hg0, Bool.false_or] at HST
                      clear hg0
                      cases lessB with
                      | true =>
                        have HE9 : Hid (sj (j + 1) = (sw.set X gn, true)) := hide (by rw [unhide HST]; simp)
                        clear HST
                        generalize hgx2 : gx.length = gxl at *
                        clear hgx2
                        go_wp2_with fail
                        refine (unhide HLS).mono ?_
                        rintro e w9 ⟨rfl, n9, hw9⟩
                        have hb9 : Below w8.heap.size w8 w9 := by rw [hw9]; exact below_drewN (Below.refl _ _) n9
                        have q9 := (hb9.cell (p := ⟨b3, o3 + j, none⟩) (block_lt_of_cell q8)).trans q8
                        have k9 := (hb9.cell (p := ⟨t, X, none⟩) (block_lt_of_cell k8)).trans k8
                        have hwt9 := (unhide HWT8).below hb9
                        have f9 := hwt9.fr X
                        have HW9 := hide (unhide HFIN2 w9 hwt9 ((unhide HN8).below hb9))
                        have HT9 := hide (((unhide HTN8).trans (Turn.of_below hb9)).trans (Turn.setCell (S := fun k => k = t) w9 (a := ⟨t, X, none⟩) (.slice a8 gn.length c8) rfl))
                        clear hw9 hb9 q8 k8 hwt9 HLS HWT8 HTN8 HN8 HFIN2 HS8
                        generalize gn.length = gnl at *
                        go_wp2
                        go_roundw
                        case rel => exact ⟨j + 1, by omega, by go_num, by rw [unhide HE9], by rw [unhide HE9]; exact unhide HW9, unhide HT9⟩
                        case measure => simp [intOf]; omega
                      | false =>
                        have HE9 : Hid (sj (j + 1) = sj j) := hide (by rw [unhide HST]; simp)
                        clear HST
                        generalize hgx2 : gx.length = gxl at *
                        clear hgx2
                        go_wp2_with fail
                        refine (unhide HLS).mono ?_
                        rintro e w9 ⟨rfl, n9, hw9⟩
                        have hb9 : Below w8.heap.size w8 w9 := by rw [hw9]; exact below_drewN (Below.refl _ _) n9
                        have HW9 := hide ((unhide HWT8).below hb9)
                        have HT9 := hide ((unhide HTN8).trans (Turn.of_below hb9))
                        clear hw9 hb9 q8 k8 HLS HWT8 HTN8 HN8 HFIN2 HS8
                        go_wp2
                        go_roundw
                        case rel => exact ⟨j + 1, by omega, by go_num, by rw [unhide HE9, unhide HSB], by rw [unhide HE9, unhide HSW]; exact unhide HW9, unhide HT9⟩
                        case measure => simp [intOf]; omega
                  · have hjq : sj j = stR (sp k) (K : Int) r := by rw [← unhide HSJ, show j = r.length by omega, List.take_length]
                    rw [hjq, ← unhide HE] at hwt
                    rw [hjq, ← unhide HE]
                    have HWT9 := hide hwt
                    have HB9 := hide ((unhide HB5).trans (htn.below (B := w.heap.size) (fun k hk => by rw [hk, unhide HTE]; exact Nat.le_refl _) (unhide HB5).size))
                    have hge : ¬ ((j : Int) < (r.length : Int)) := by omega
                    clear hwt htn hjq hjl hj
                    go_wp2
                    go_roundw
                    case rel => exact ⟨k + 1, by omega, by have := unhide HK; go_num, rfl, unhide HWT9, unhide HB9⟩
                    case measure => simp [intOf]; have := unhide HK; omega
            · obtain rfl : k = 40 := by omega
              have hpr := unhide HP 40 (Nat.le_refl _)
              have hle : muO wr t = muW (sp 40).1 := hwt.mu
              have HWT2 := hide hwt
              have HBEL2 := hide hbel
              have HPR := hide hpr
              have HLE := hide hle
              have hsp40 : (stP rf W 40) = sp 40 := by rw [unhide HSP]
              have HSP40 := hide hsp40
              clear hpr hle hwt hbel hlt hk hsp40 HSTS HP HST0
              generalize sp 40 = s9 at *
              obtain ⟨s1, s2⟩ := s9
              dsimp only at *
              go_wp2
              go_roundw
              case rel => exact ⟨s2, s1, rfl, (unhide HPR).inv, fun h => by
                have e := (unhide HPR).flag h
                have e1 : s1 = W := congrArg Prod.fst e
                rw [e1, unhide HSP40]
                exact h, unhide HWT2, unhide HBEL2⟩
              case measure =>
                rw [← unhide HWA, unhide HLE, unhide HMU]
                cases s2 with
                | true =>
                  have := (unhide HPR).less rfl rfl
                  dsimp only at this
                  simp only [boN]
                  omega
                | false =>
                  have e := (unhide HPR).flag rfl
                  have e1 : s1 = W := congrArg Prod.fst e
                  rw [e1]
                  simp only [boN]
                  omega
end Go.Proofs.YtopblhmbjdfebaaGreatDoor
/-! Contract of vaultsame.Ints, over rows of numbers. (Part of the proofs over packages reach and undo.) -/
namespace Go.Proofs.YtopblhmbjdfebaaGreatDoor
open Go.RowKit
set_option linter.unusedVariables false

end Go.Proofs.YtopblhmbjdfebaaGreatDoor
/-! Contracts of the reference's second part: Live; whether two rows of numbers are the same. (Part of the proofs over who is led to.) -/
namespace Go.Proofs.YtopblhmbjdfebaaGreatDoor
open Go.RowKit
set_option linter.unusedVariables false

theorem lvK_succ (L : List Int) (k : Nat) : lvK L (k + 1) = if tagAt L ((k : Int) + 1) ≠ 0 ∧ lvB L ((k : Int) + 1) = true then lvK L k ++ [(k : Int) + 1] else lvK L k := by
  unfold lvK
  rw [List.range_succ, List.map_append, List.filter_append]
  by_cases h : tagAt L ((k : Int) + 1) ≠ 0 ∧ lvB L ((k : Int) + 1) = true
  · rw [if_pos h]
    simp [h.1, h.2]
  · rw [if_neg h]
    by_cases h1 : tagAt L ((k : Int) + 1) = 0
    · simp [h1]
    · have h2 : lvB L ((k : Int) + 1) = false := by
        cases e : lvB L ((k : Int) + 1) with
        | false => rfl
        | true => exact absurd ⟨h1, e⟩ h
      simp [h2]
theorem lv_dd (L : List Int) (k : Nat) : ∀ x ∈ lvK L k, x ∉ ddK L k := fun x h1 h2 => (mem_lvK.1 h1).2.2 (mem_ddK.1 h2).2.2
theorem lvKk_len (L : List Int) (k : Nat) : (lvK L k).length ≤ k := by
  unfold lvK
  exact Nat.le_trans (List.length_filter_le _ _) (by simp)
/-- Two rows of which no number is in both do not share a block. -/
theorem Lst.apart2 {w : World} {B : Nat} {v1 v2 : Value} {l1 l2 : List Int} (h1 : Lst inC 1 3 w B v1 l1) (h2 : Lst inC 1 3 w B v2 l2) (n1 : l1 = [] → v1 = .slice none 0 0) (n2 : l2 = [] → v2 = .slice none 0 0) (hd : ∀ x ∈ l1, x ∉ l2) : ∀ g, v1.ownBlock = some g → v2.ownBlock ≠ some g := by
  intro g e1 e2
  cases l1 with
  | nil => rw [n1 rfl] at e1; cases e1
  | cons x r1 =>
    cases l2 with
    | nil => rw [n2 rfl] at e2; cases e2
    | cons y r2 =>
      rcases h1.2 with ⟨rfl, _⟩ | ⟨g1, c1, u1, rfl, _, hb1, _, _, _, t1⟩
      · cases e1
      rcases h2.2 with ⟨rfl, _⟩ | ⟨g2, c2, u2, rfl, _, hb2, _, _, _, t2⟩
      · cases e2
      simp [Value.ownBlock] at e1 e2
      subst e1
      subst e2
      rw [hb1] at hb2
      simp at hb2
      subst hb2
      have a1 : u1.toList[0]? = some (.int .i64 x) := by
        have := congrArg (fun l => l[0]?) t1
        simpa [inC] using this
      have a2 : u1.toList[0]? = some (.int .i64 y) := by
        have := congrArg (fun l => l[0]?) t2
        simpa [inC] using this
      rw [a1] at a2
      have : x = y := by simpa using a2
      exact hd x (by simp) (by rw [this]; simp)
theorem Lst.keep2 {α : Type} {enc : α → List Value} {k T : Nat} {w w' : World} {B : Nat} {v v' : Value} {l' : List α} (h' : Lst enc k T w B v' l') (ha : ∀ g, v.ownBlock = some g → v'.ownBlock ≠ some g)
    (hk : ∀ j, j < w.heap.size → v.ownBlock ≠ some j → w'.heap[j]? = w.heap[j]?) : Lst enc k T w' B v' l' := by
  refine ⟨h'.1, ?_⟩
  rcases h'.2 with h0 | ⟨g, cap, cur, rfl, hB, hc, h3⟩
  · exact .inl h0
  · exact .inr ⟨g, cap, cur, rfl, hB, (hk g (Array.getElem?_eq_some_iff.1 hc).1 (fun e => ha g e rfl)).trans hc, h3⟩
set_option maxRecDepth 100000 in
set_option maxHeartbeats 4000000 in
theorem sLive_any (a : Option Addr) (cap : Nat) (L : List Int) (w : World) (hbs : Bs w a cap L) (hf : Fine L) :
    Calls Tryz.prog 21 #[.slice a L.length cap] w fun e w' => ∃ v1 v2, e = .returned (.tuple #[v1, v2]) ∧ Lst inC 1 3 w' w.heap.size v1 (lvK L 40) ∧ Lst inC 1 3 w' w.heap.size v2 (ddK L 40) ∧ Below w.heap.size w w' := by
  obtain ⟨i0, hi0, hz0, hz1, hz2⟩ := info_parts info_inS
  have hl := hf.len
  have hbl := hbs.2.2.1
  have HW := hide (sWays_any a cap L w hbs hf)
  have HE := hide (fun (h : Int) (W : World) (hW : Below w.heap.size w W) (h1 : 1 ≤ h) (h2 : h ≤ 40) => rEntry_any a cap L h W (hbs.below hW) hl.1 h1 h2)
  unfold entV at HE
  have HLS := hide (fun k => lvK_succ L k)
  have HDS := hide (fun k => ddK_succ L k)
  have HLL := hide (fun k => lvKk_len L k)
  have HDL := hide (fun k => ddK_len L k)
  have HDJ := hide (fun k => lv_dd L k)
  have H0 : Hid (lvK L 0 = [] ∧ ddK L 0 = []) := hide ⟨rfl, rfl⟩
  have HLV : Hid (∀ h, lvB L h = decide (wyL L h ≠ [])) := hide (fun h => rfl)
  clear hbs hf
  generalize lvK L = lk at *
  generalize ddK L = dk at *
  generalize hN : L.length = N at *
  clear hN
  go_enter Tryz.func21, Tryz.ntmps21
  go_wp2_with fail
  refine (unhide HW).mono ?_
  rintro e w1 ⟨t, W, rfl, hwt1, hwl, hgw, htl, hb1⟩
  have HWT := hide hwt1
  have HB1 := hide hb1
  have HGW := hide hgw
  clear hwt1 hb1 hgw HW
  go_wp2_with fail
  go_loopw [5, 6, 7, 8, 9] (fun v1 v2 hv _ _ wr => ∃ k : Nat, k ≤ 40 ∧ hv = .int .i64 ((k : Int) + 1) ∧ Lst inC 1 3 wr w1.heap.size v1 (lk k) ∧ Lst inC 1 3 wr w1.heap.size v2 (dk k) ∧ (lk k = [] → v1 = .slice none 0 0) ∧ (dk k = [] → v2 = .slice none 0 0) ∧ Below w1.heap.size w1 wr) (fun _ _ hv _ _ _ => 41 - (intOf hv).toNat)
  case atStart => exact ⟨0, Nat.zero_le _, rfl, by rw [(unhide H0).1]; exact Lst.nil _ _, by rw [(unhide H0).2]; exact Lst.nil _ _, fun _ => rfl, fun _ => rfl, Below.refl _ _⟩
  case round =>
    obtain ⟨k, hk, rfl, ho1, ho2, hn1, hn2, hbel⟩ := hrel
    by_cases hlt : k < 40
    · obtain ⟨K, hK⟩ : ∃ K : Nat, K = k + 1 := ⟨_, rfl⟩
      have hKi : (k : Int) + 1 = (K : Int) := by omega
      have hls := unhide HLS k
      have hds := unhide HDS k
      have hll := unhide HLL k
      have hdl := unhide HDL k
      rw [hKi] at hls hds
      rw [hKi]
      have HEX := hide (unhide HE (K : Int) wr ((unhide HB1).trans (hbel.mono (unhide HB1).size)) (by omega) (by omega))
      have hlv := unhide HLV (K : Int)
      rw [← unhide HGW (K : Int) (by omega), gW_nat] at hlv
      obtain ⟨ta, tc, htc, hts⟩ := (unhide HWT).at (i := K) (by omega)
      have k0 : (0 : Int) ≤ (K : Int) := by omega
      have k1 : (K : Int) < 41 := by omega
      have k2 : (K : Int) ≤ 40 := by omega
      have HK := hide hK
      have hgl := hts.2.2.1
      have HAP := hide (Lst.apart2 ho1 ho2 hn1 hn2 (unhide HDJ k))
      have HO1 := hide ho1
      have HO2 := hide ho2
      have HN1 := hide hn1
      have HN2 := hide hn2
      have HBEL := hide hbel
      obtain ⟨va1, vm1, vc1, hv1⟩ := ho1.shape
      obtain ⟨va2, vm2, vc2, hv2⟩ := ho2.shape
      subst hv1
      subst hv2
      clear ho1 ho2 hn1 hn2 hbel hts hKi hK
      generalize entOf L (K : Int) = E at *
      obtain ⟨e1, e2, e3, e4⟩ := E
      dsimp only at HEX
      by_cases ht : tagAt L (K : Int) = 0
      · have HEQ : Hid (lk (k + 1) = lk k ∧ dk (k + 1) = dk k) := hide ⟨by rw [hls, if_neg (fun h => h.1 ht)], by rw [hds, if_neg (fun h => h.1 ht)]⟩
        rw [show (tagAt L (K : Int) != 0) = false by rw [ht]; rfl] at HEX
        clear hls hds hlv ht htc hgl
        go_wp2_with fail
        refine (unhide HEX).mono ?_
        rintro e w2 ⟨rfl, hb2⟩
        have hb3 : Below wr.heap.size wr (w2.alloc (.cells #[.int .i64 e1, .int .i64 e2, .int .i64 e3, .int .i64 e4] 66)) := hb2.alloc hb2.size _
        have HO13 := hide ((unhide HO1).below hb3)
        have HO23 := hide ((unhide HO2).below hb3)
        have HB3 := hide ((unhide HBEL).trans (hb3.mono (unhide HBEL).size))
        clear hb2 hb3 HEX HO1 HO2 HBEL
        go_wp2
        go_roundw
        case rel => exact ⟨k + 1, by omega, by have := unhide HK; go_num, by rw [(unhide HEQ).1]; exact unhide HO13, by rw [(unhide HEQ).2]; exact unhide HO23, by rw [(unhide HEQ).1]; exact unhide HN1, by rw [(unhide HEQ).2]; exact unhide HN2, unhide HB3⟩
        case measure => simp [intOf]; have := unhide HK; omega
      · rw [bne_iff_ne.2 ht] at HEX
        have hq1 : wr.cell? ⟨t, K, none⟩ = some (.slice ta (W.getD K []).length tc) := ((unhide HBEL).cell (p := ⟨t, K, none⟩) (block_lt_of_cell htc)).trans htc
        clear htc
        by_cases hgo : W.getD K [] = []
        · have hlf : lvB L (K : Int) = false := by rw [hlv]; exact decide_eq_false (fun h => h hgo)
          have HEQ : Hid (lk (k + 1) = lk k ∧ dk (k + 1) = dk k ++ [(K : Int)]) := hide ⟨by rw [hls, if_neg (fun h => by rw [hlf] at h; cases h.2)], by rw [hds, if_pos ⟨ht, hlf⟩]⟩
          rw [hgo] at hq1
          have hq1 : wr.cell? ⟨t, K, none⟩ = some (.slice ta 0 tc) := hq1
          clear hls hds hlv ht hlf hgo hgl
          go_wp2_with fail
          refine (unhide HEX).mono ?_
          rintro e w2 ⟨rfl, hb2⟩
          have hb3 : Below wr.heap.size wr ((w2.alloc (.cells #[.int .i64 e1, .int .i64 e2, .int .i64 e3, .int .i64 e4] 66)).alloc (.cells #[.int .i64 (K : Int)] 3)) := (hb2.alloc hb2.size _).alloc (by rw [sz_alloc]; have := hb2.size; omega) _
          have HGN : Hid (((w2.alloc (.cells #[.int .i64 e1, .int .i64 e2, .int .i64 e3, .int .i64 e4] 66)).alloc (.cells #[.int .i64 (K : Int)] 3)).heap[w2.heap.size + 1]? = some (.cells (inC (K : Int)).toArray 3 (0, 0))) := hide (by
            have := heap_alloc_new (w2.alloc (.cells #[.int .i64 e1, .int .i64 e2, .int .i64 e3, .int .i64 e4] 66)) (.cells #[.int .i64 (K : Int)] 3)
            rw [sz_alloc] at this
            exact this)
          have hq2 := (hb2.cell (p := ⟨t, K, none⟩) (block_lt_of_cell hq1)).trans hq1
          have g2 := block_lt_of_cell hq2
          have HO13 := hide ((unhide HO1).below hb3)
          have HO23 := hide ((unhide HO2).below hb3)
          have HB3 := hide ((unhide HBEL).trans (hb3.mono (unhide HBEL).size))
          have hszB : w1.heap.size ≤ w2.heap.size := Nat.le_trans (unhide HBEL).size hb2.size
          clear hb2 hb3 HEX HO1 HO2 HBEL hq1
          generalize hac : dk k = acc at HO23 HEQ
          have hacl : acc.length ≤ 1000 := by rw [← hac]; omega
          clear hac
          go_wp2_with (at_builtin; refine wpList_append_lst2 rfl _ _ 54 rfl w1.heap.size i0 (.int .i64 0) 8 Tryz.underlying54 hi0 hz0 hz1 hz2 rfl (by decide) (by decide) _ _ rfl (unhide HO23) (w2.heap.size + 1) (K : Int) rfl (unhide HGN) rfl (inC_one _) hacl (by simp; omega) ?_)
          intro v9 w9 hown9 hb9 hkp9
          have HOT := hide ((unhide HO13).keep2 (fun g e1 e2 => unhide HAP g e2 e1) (fun j hj hne => hkp9 j (by rw [sz_alloc, sz_alloc] at hj; exact hj) hne))
          rw [← (unhide HEQ).2] at hown9
          have HO9 := hide hown9
          have HB9 := hide ((unhide HB3).trans hb9)
          obtain ⟨a9, m9, c9, rfl⟩ := hown9.shape
          clear hown9 hb9 hkp9 HO13 HO23 HB3 HGN hq2
          go_wp2
          go_roundw
          case rel => exact ⟨k + 1, by omega, by have := unhide HK; go_num, by rw [(unhide HEQ).1]; exact unhide HOT, unhide HO9, by rw [(unhide HEQ).1]; exact unhide HN1, fun h => by rw [(unhide HEQ).2] at h; simp at h, unhide HB9⟩
          case measure => simp [intOf]; have := unhide HK; omega
        · have hlf : lvB L (K : Int) = true := by rw [hlv]; exact decide_eq_true hgo
          have HEQ : Hid (lk (k + 1) = lk k ++ [(K : Int)] ∧ dk (k + 1) = dk k) := hide ⟨by rw [hls, if_pos ⟨ht, hlf⟩], by rw [hds, if_neg (fun h => by rw [hlf] at h; cases h.2)]⟩
          have hpos : 0 < (W.getD K []).length := List.length_pos_iff.2 hgo
          clear hls hds hlv ht hlf hgo
          generalize (W.getD K []).length = gl at *
          have hpi : (0 : Int) < (gl : Int) := by omega
          go_wp2_with fail
          refine (unhide HEX).mono ?_
          rintro e w2 ⟨rfl, hb2⟩
          have hb3 : Below wr.heap.size wr ((w2.alloc (.cells #[.int .i64 e1, .int .i64 e2, .int .i64 e3, .int .i64 e4] 66)).alloc (.cells #[.int .i64 (K : Int)] 3)) := (hb2.alloc hb2.size _).alloc (by rw [sz_alloc]; have := hb2.size; omega) _
          have HGN : Hid (((w2.alloc (.cells #[.int .i64 e1, .int .i64 e2, .int .i64 e3, .int .i64 e4] 66)).alloc (.cells #[.int .i64 (K : Int)] 3)).heap[w2.heap.size + 1]? = some (.cells (inC (K : Int)).toArray 3 (0, 0))) := hide (by
            have := heap_alloc_new (w2.alloc (.cells #[.int .i64 e1, .int .i64 e2, .int .i64 e3, .int .i64 e4] 66)) (.cells #[.int .i64 (K : Int)] 3)
            rw [sz_alloc] at this
            exact this)
          have hq2 := (hb2.cell (p := ⟨t, K, none⟩) (block_lt_of_cell hq1)).trans hq1
          have g2 := block_lt_of_cell hq2
          have HO13 := hide ((unhide HO1).below hb3)
          have HO23 := hide ((unhide HO2).below hb3)
          have HB3 := hide ((unhide HBEL).trans (hb3.mono (unhide HBEL).size))
          have hszB : w1.heap.size ≤ w2.heap.size := Nat.le_trans (unhide HBEL).size hb2.size
          clear hb2 hb3 HEX HO1 HO2 HBEL hq1
          generalize hac : lk k = acc at HO13 HEQ
          have hacl : acc.length ≤ 1000 := by rw [← hac]; omega
          clear hac
          go_wp2_with (at_builtin; refine wpList_append_lst2 rfl _ _ 54 rfl w1.heap.size i0 (.int .i64 0) 8 Tryz.underlying54 hi0 hz0 hz1 hz2 rfl (by decide) (by decide) _ _ rfl (unhide HO13) (w2.heap.size + 1) (K : Int) rfl (unhide HGN) rfl (inC_one _) hacl (by simp; omega) ?_)
          intro v9 w9 hown9 hb9 hkp9
          have HOT := hide ((unhide HO23).keep2 (unhide HAP) (fun j hj hne => hkp9 j (by rw [sz_alloc, sz_alloc] at hj; exact hj) hne))
          rw [← (unhide HEQ).1] at hown9
          have HO9 := hide hown9
          have HB9 := hide ((unhide HB3).trans hb9)
          obtain ⟨a9, m9, c9, rfl⟩ := hown9.shape
          clear hown9 hb9 hkp9 HO13 HO23 HB3 HGN hq2
          go_wp2
          go_roundw
          case rel => exact ⟨k + 1, by omega, by have := unhide HK; go_num, unhide HO9, by rw [(unhide HEQ).2]; exact unhide HOT, fun h => by rw [(unhide HEQ).1] at h; simp at h, by rw [(unhide HEQ).2]; exact unhide HN2, unhide HB9⟩
          case measure => simp [intOf]; have := unhide HK; omega
    · obtain rfl : k = 40 := by omega
      have HO1 := hide (ho1.lowA (unhide HB1).size)
      have HO2 := hide (ho2.lowA (unhide HB1).size)
      have HB2 := hide ((unhide HB1).trans (hbel.mono (unhide HB1).size))
      obtain ⟨va1, vm1, vc1, hv1⟩ := ho1.shape
      obtain ⟨va2, vm2, vc2, hv2⟩ := ho2.shape
      subst hv1
      subst hv2
      clear ho1 ho2 hn1 hn2 hbel
      go_wp2
      go_ret2
      exact ⟨_, _, rfl, unhide HO1, unhide HO2, unhide HB2⟩
end Go.Proofs.YtopblhmbjdfebaaGreatDoor
/-! A region that draws its order: the condition on the world may be made stronger on the way. (Part of the proofs.) -/
namespace Go.Proofs.YtopblhmbjdfebaaGreatDoor

set_option linter.unusedVariables false

theorem wpAnyH_turn {P : Program} {ops : Array Oper} {Q : Exit → Act → World → Prop} {md : Region.Mode} {S S2 : World → Prop} (hS : ∀ w, S2 w → S w) :
    ∀ (fuel : Nat) (listed : Array Bool) (a : Act) (w : World), wpAnyH P md ops Q S2 fuel listed a w → wpAnyH P md ops Q S fuel listed a w
  | 0, _, _, _, h => h
  | fuel + 1, _, _, _, h => ⟨h.1, fun i hi => wpOp_mono (fun a' w' h' => ⟨hS w' h'.1, wpAnyH_turn hS fuel _ a' w' h'.2⟩) (h.2 i hi)⟩
end Go.Proofs.YtopblhmbjdfebaaGreatDoor
