/-
  The walk of UndoBack. (Part of the proof of UndoBack.)
-/
import Derived.Test.YtopblhmbjdfebaaGreatJUd
import Derived.Test.YtopblhmbjdfebaaGreatJRt
import Derived.Test.YtopblhmbjdfebaaGreatJRc
import Derived.Test.YtopblhmbjdfebaaGreatJEx
import Derived.Test.YtopblhmbjdfebaaGreatJRu
import Derived.Test.YtopblhmbjdfebaaGreatJMv
import Derived.Test.YtopblhmbjdfebaaGreatJDf
import Derived.Test.YtopblhmbjdfebaaGreatJIn
import Derived.Deep.CutRange
import Derived.Deep.RegionWith
namespace Go.Proofs.YtopblhmbjdfebaaGreat
open Go.RowKit Go.Sort
set_option linter.unusedVariables false

theorem Lst.lowB2 {α : Type} {enc : α → List Value} {k T : Nat} {w : World} {B B' : Nat} {v : Value} {l : List α} (h : Lst enc k T w B' v l) (hB : B ≤ B') : Lst enc k T w B v l := by
  refine ⟨h.1, ?_⟩
  rcases h.2 with h0 | ⟨g, cap, cur, hv, hb, h3⟩
  · exact .inl h0
  · exact .inr ⟨g, cap, cur, hv, Nat.le_trans hB hb, h3⟩
theorem one_list (w : World) : Lst inC 1 3 w w.heap.size (.slice none 0 0) [] := Lst.nil _ _
theorem info_inU : (Tryz.prog.info? 3).map (fun i => (i.zero, i.size, i.bytes)) = some (some (.int .i64 0), 1, 8) := by kernel_rfl
theorem inU_one (x : Int) : ∀ u ∈ inC x, u.oneCell' = true := by
  intro u hu
  rw [List.mem_singleton.1 hu]
  rfl
theorem Own1.fresh {w w' : World} {B u gm p g c : Nat} {L : List Int} {n : Nat} {M : List (Int × List Int)} (hud : Ud w B u gm p g c L n M) (hB : B ≤ w.heap.size) {a : Option Addr} {c' : Nat} {l : List Int} (ho : OwnV w' w.heap.size (.slice a l.length c') l) (hb : Byt l) (hl : l.length ≤ 140737488351232) : Own1 w' B (ft u gm p g) (a, c', l) :=
  ⟨ho.lower hB, hb, hl, fun b hb hf => by have h1 := ho.block b hb; have h2 := hud.lt b hf; omega⟩
theorem told_len : ∀ (l : List (Int × List Int × List Int)), (∀ x ∈ l, 1 ≤ x.2.2.length) → l.length ≤ tldN l
  | [], _ => Nat.zero_le _
  | x :: r, h => by
    have h1 := told_len r (fun y hy => h y (by simp [hy]))
    have h2 := h x (by simp)
    have h3 : tldN (x :: r) = x.2.2.length + tldN r := by unfold tldN; rw [List.map_cons, List.sum_cons]
    rw [List.length_cons, h3]
    omega
theorem drewN_add (w : World) (a : Nat) : ∀ b, (w.drewN a).drewN b = w.drewN (a + b)
  | 0 => rfl
  | b + 1 => by
    have ih := drewN_add w a b
    first
      | (show ((w.drewN a).drewN b).drew = (w.drewN (a + b)).drew; rw [ih])
      | (show ((w.drewN a).drew).drewN b = _; exact drewN_add w (a + 1) b |>.trans (by rw [Nat.add_right_comm]; rfl))
/-- The image as a text, and another slice that reads the same, as a text. -/
theorem bytes_tb (p g c B : Nat) (L : List Int) (aw : Option Addr) (cw b i : Nat) (w : World) (hh : Hp w B p g c L) (hw : Bs w aw cw L) (hc : w.cell? ⟨b, i, none⟩ = some (.slice aw L.length cw)) :
    Calls Tryz.prog 9 #[.pointer (some ⟨p, 0, none⟩)] w fun e w' => ∃ a' c', e = .returned (.slice a' L.length c') ∧ (convert 22 9 (.slice a' L.length c')).run Tryz.prog w' = .ok (.string (strOf L)) w' ∧ (w'.cell? ⟨b, i, none⟩ = some (.slice aw L.length cw) ∧ (convert 22 9 (.slice aw L.length cw)).run Tryz.prog w' = .ok (.string (strOf L)) w') ∧ Below w.heap.size w w' :=
  (hBytes_any p g c B L w hh).mono fun e w' ⟨a', c', he, ho, hb⟩ => ⟨a', c', he, by
    obtain ⟨a2, c2, e2, hbs⟩ := ho.bs hh.byt (by have := hh.len; omega)
    simp only [Value.slice.injEq, true_and] at e2
    obtain ⟨rfl, rfl⟩ := e2
    exact conv_str Tryz.underlying22 Tryz.underlying5 Tryz.underlying9 hbs, ⟨(hb.cell (block_lt_of_cell hc)).trans hc, conv_str Tryz.underlying22 Tryz.underlying5 Tryz.underlying9 (hw.below hb)⟩, hb⟩
/-- No more marks than numbers. -/
theorem rise_len : ∀ {l : List Int} {a n : Int}, l.Pairwise (· < ·) → (∀ x ∈ l, a < x ∧ x ≤ n) → a ≤ n → (l.length : Int) ≤ n - a
  | [], a, n, _, _, h => by simp; omega
  | x :: r, a, n, hp, hx, h => by
    obtain ⟨h1, h2⟩ := List.pairwise_cons.1 hp
    have h3 := hx x (by simp)
    have := rise_len (l := r) (a := x) (n := n) h2 (fun y hy => ⟨h1 y hy, (hx y (by simp [hy])).2⟩) h3.2
    rw [List.length_cons]
    omega
theorem mks_len {w : World} {B u gm p g c : Nat} {L : List Int} {n : Nat} {M : List (Int × List Int)} (h : Ud w B u gm p g c L n M) : M.length ≤ n := by
  have := rise_len (l := M.map (·.1)) (a := 0) (n := (n : Int)) h.map.rise (fun x hx => by
    obtain ⟨y, hy, rfl⟩ := List.mem_map.1 hx
    have := h.num y hy
    omega) (by omega)
  rw [List.length_map] at this
  omega
set_option maxRecDepth 100000 in
set_option maxHeartbeats 16000000 in
theorem walkUndoBack (a : Option Addr) (cap : Nat) (b : List Int) (a1 : Option Addr) (cap1 : Nat) (ops : List OpR) (a2 : Option Addr) (cap2 : Nat) (bk : List Int) (w : World) (hb : Bs w a cap b) (ho : Ops w a1 cap1 ops) (hk : Is w a2 cap2 bk) :
    Calls Tryz.prog 3 #[.slice a b.length cap, .slice a1 ops.length cap1, .slice a2 bk.length cap2] w fun e w' => e = .returned (.bool true) ∧ Below w.heap.size w w' := by
  have hbl := hb.2.2.1
  have hol := ho.1.2.2.1
  have hkl := hk.2.2.1
  have HOPS := hide ho
  have HBK := hide hk
  have HL := hide (loadedO_any a cap b w hb)
  have hlen := (ldL_fine b).len
  obtain ⟨i0, hi0, hz0, hz1, hz2⟩ := info_parts info_inU
  clear hb ho hk
  generalize ldL b = L0 at *
  go_enter Tryz.func3, Tryz.ntmps3
  go_wp2_with fail
  refine (unhide HL).mono ?_
  rintro e w1 ⟨p, g0, c0, am, cm, rfl, hh1, _, hb1⟩
  have HN := hide (uNew_any hh1 hb1.size)
  have HB1 := hide hb1
  clear hh1 hb1 HL
  generalize hN0 : L0.length = N at *
  have HN0 := hide hN0
  clear hN0
  go_wp2_with fail
  refine (unhide HN).mono ?_
  rintro e w2 ⟨u, gm, rfl, hud2, hb2⟩
  have hB2 := (unhide HB1).trans (hb2.mono (unhide HB1).size)
  have HM := hide (uMark_any hud2 hB2.size (by omega))
  have HG2 := hide (fun k hk => hud2.ge k hk)
  have HB2 := hide hB2
  clear hud2 hb2 hB2 HN HB1
  go_wp2_with fail
  refine (unhide HM).mono ?_
  rintro e w3 ⟨rfl, hud3, ht3⟩
  have hB3 := (unhide HB2).trans (ht3.below (unhide HG2) (unhide HB2).size)
  rw [List.nil_append] at hud3
  have e01 : ((0 : Nat) : Int) + 1 = 1 := rfl
  rw [e01] at hud3 ⊢
  have HBK2 := hide (uBack_no hud3 (m := 2) (by omega) rfl)
  rw [errV_pos 5 (by decide)] at HBK2
  have HUD3 := hide hud3
  have HB3 := hide hB3
  clear hud3 ht3 hB3 HM HB2 HG2 e01
  go_wp2_with fail
  refine (unhide HBK2).mono ?_
  rintro e w4 ⟨rfl, hb4⟩
  have HUD4 := hide ((unhide HUD3).below hb4)
  have HB4 := hide ((unhide HB3).trans (hb4.mono (unhide HB3).size))
  clear hb4 HBK2 HUD3 HB3
  go_wp2_with (at_make; refine wpList_make_tbl rfl _ _ 34 rfl Tryz.underlying34 _ _ _ _ rfl rfl rfl rfl ?_)
  intro w5 htb5 hsz5 hb5
  have hud5 := (unhide HUD4).below hb5
  have hB5 := (unhide HB4).trans (hb5.mono (unhide HB4).size)
  have HBY := hide (hBytes_any p g0 c0 w.heap.size L0 w5 hud5.hp)
  rw [unhide HN0] at HBY
  have hti4 := (unhide HB4).size
  generalize hti : w4.heap.size = ti at *
  have HUB5 : Hid (Ub w w5 u gm p g0 c0 L0 1 [(1, L0)] ti (List.replicate 100 (none, 0, [])) [] (.slice none 0 0) []) := hide
    ⟨hud5, htb5, by simp, hti4, fun r hr => (by
      rw [(List.mem_replicate.1 hr).2]
      exact ⟨OwnV.nil _ _, (fun z hz => by cases hz), Nat.zero_le _, (fun b hb => by cases hb)⟩), (fun x hx => by cases hx), Lst.nil _ _, hB5⟩
  clear htb5 hsz5 hb5 hud5 hB5 HUD4 HB4 hti hti4
  go_wp2_with fail
  refine (unhide HBY).mono ?_
  rintro e w6 ⟨a6, c6, rfl, ho6, hb6⟩
  have hub6 := (unhide HUB5).below hb6
  rw [← unhide HN0] at ho6
  have hown6 := Own1.fresh (unhide HUB5).ud (unhide HUB5).bel.size ho6 hub6.ud.hp.byt (by have := hub6.ud.hp.len; omega)
  have hc6 := hub6.cell (i := 1) (r := (none, 0, [])) (by simp)
  have hf6 := hub6.fr 1
  have hl6 := hub6.tlt
  have hub7 := hub6.put (i := 1) (by decide) hown6 (fun x hx => by cases hx) (z := 1) rfl
  rw [List.nil_append] at hub7
  dsimp only at hub7
  rw [unhide HN0] at hub7
  have HUB7 := hide hub7
  clear ho6 hb6 hub6 hown6 hub7 HBY HUB5
  generalize (List.replicate 100 ((none, 0, []) : Option Addr × Nat × List Int)).set 1 (a6, c6, L0) = rs0 at *
  have HUB8 := hide ((unhide HUB7).below ((Below.refl _ (w6.setCell ⟨ti, 1, none⟩ (.slice a6 N c6))).alloc (Nat.le_refl _) (.cells #[.int .i64 1] 3)))
  have HNEW : Hid (((w6.setCell ⟨ti, 1, none⟩ (.slice a6 N c6)).alloc (.cells #[.int .i64 1] 3)).heap[w6.heap.size]? = some (.cells (inC 1).toArray 3 (0, 0))) := hide (by
    have := heap_alloc_new (w6.setCell ⟨ti, 1, none⟩ (.slice a6 N c6)) (.cells #[.int .i64 1] 3)
    rw [show (w6.setCell ⟨ti, 1, none⟩ (.slice a6 N c6)).heap.size = w6.heap.size by simp] at this
    exact this)
  clear HUB7
  go_wp2_with (at_builtin; refine wpList_append_lst2 rfl _ _ 24 rfl w.heap.size i0 (.int .i64 0) 8 Tryz.underlying24 hi0 hz0 hz1 hz2 rfl (by decide) (by decide) _ [] rfl (unhide HUB8).row w6.heap.size 1 rfl (unhide HNEW) rfl (inU_one _) (by simp) (unhide HUB8).bel.size ?_)
  intro v9 w9 hL9 hb9 hk9
  have HUB9 := hide ((unhide HUB8).grow (unhide HUB8).row hb9 (fun j hj hn => hk9 j (by simpa using hj) hn) hL9)
  obtain ⟨va9, vm9, vc9, rfl⟩ := hL9.shape
  clear hL9 hb9 hk9 HUB8 HNEW
  go_wp2_with fail
  go_loopw [12, 13, 14] (fun lv mv iv wr => ∃ (k n g c : Nat) (L : List Int) (M : List (Int × List Int)) (rs : List (Option Addr × Nat × List Int)), k ≤ ops.length ∧ k ≤ 30 ∧ iv = .int .i64 k ∧ lv = .int .i64 n ∧ n ≤ k + 1 ∧ L.length = N ∧ Ub w wr u gm p g c L n M ti rs M mv (M.map (·.1))) (fun _ _ iv _ => 30 - (intOf iv).toNat)
  case atStart => exact ⟨0, 1, g0, c0, L0, [(1, L0)], rs0, Nat.zero_le _, Nat.zero_le _, rfl, rfl, Nat.le_refl _, unhide HN0, unhide HUB9⟩
  case round =>
    obtain ⟨k, n, g, c, L, M, rs, hk, hk30, rfl, rfl, hn, hLN, hub⟩ := hrel
    clear HUB9 HN0
    obtain ⟨va, vm, vc, rfl⟩ := hub.row.shape
    by_cases hlt : k < ops.length ∧ k < 30
    · obtain ⟨hu1, hu2⟩ := hlt
      have hne : ops ≠ [] := by intro e; rw [e] at hu1; simp at hu1
      obtain ⟨bo, oo, rfl, hco⟩ := (unhide HOPS).1.2.2.2 hne
      obtain ⟨r, hr⟩ : ∃ r, ops[k]? = some r := ⟨ops[k], List.getElem?_eq_getElem hu1⟩
      obtain ⟨o0, o1, o2, o3, o4, o5⟩ := Sls.op hco hr
      obtain ⟨z0, z1, z2, z3, z4, z5⟩ := (unhide HOPS).2 r (List.mem_of_getElem? hr)
      have hbel := hub.bel
      rw [← hbel.cell (block_lt_of_cell o0)] at o0
      rw [← hbel.cell (block_lt_of_cell o1)] at o1
      rw [← hbel.cell (block_lt_of_cell o2)] at o2
      rw [← hbel.cell (block_lt_of_cell o3)] at o3
      rw [← hbel.cell (block_lt_of_cell o4)] at o4
      rw [← hbel.cell (block_lt_of_cell o5)] at o5
      have hba : Below wr.heap.size wr (wr.alloc (.cells #[.int .i64 r.1, .int .i64 r.2.1, .int .i64 r.2.2.1, .int .i64 r.2.2.2.1, .string r.2.2.2.2.1, .slice r.2.2.2.2.2.1 r.2.2.2.2.2.2.2.length r.2.2.2.2.2.2.1] 37)) := (Below.refl _ _).alloc (Nat.le_refl _) _
      have hub1 := hub.below hba
      have HOP := hide (OpB.new wr r)
      have HUB := hide hub1
      have HBODY := hide (z5.below hub1.bel)
      have hyl := z5.2.2.1
      unfold InZ at z0 z1 z2 z3
      obtain ⟨x0, x1, x2, x3, s, ab, cb, body⟩ := r
      dsimp only at *
      have hku : (k : Int) < (ops.length : Int) := by omega
      have hk4 : (k : Int) < 30 := by omega
      clear hco hr hne hba z5 hub hub1 hbel
      generalize hBL : body.length = BL at *
      have HBL := hide hBL
      clear hBL
      go_upto_region 17 with fail
      generalize hwo : wr.alloc (.cells #[.int .i64 x0, .int .i64 x1, .int .i64 x2, .int .i64 x3, .string s, .slice ab BL cb] 37) = wo at *
      generalize wr.heap.size = go at *
      clear hwo o0 o1 o2 o3 o4 o5
      go_cut [72] from 73 to 73 (fun v wx => v = .int .i64 x0 ∧ wx = wo)
      case first =>
        obtain ⟨d0, d1, d2, d3, d4, d5⟩ := (unhide HOP).cells
        dsimp only at d0
        clear d1 d2 d3 d4 d5
        go_wp2
        go_meet
        case rel => exact ⟨rfl, rfl⟩
      case rest =>
        obtain ⟨rfl, hwx⟩ := hcut
        replace hwx := hwx.symm
        subst hwx
        refine (‹∀ (a : Act) (w : World), Code.wp Tryz.prog (Code.block _ _) _ a w → _›) _ _ ?_
        go_cut [12, 13] from 73 to 73 (fun lv mv wx => ∃ (n' g' c' : Nat) (L' : List Int) (M' : List (Int × List Int)) (rs' : List (Option Addr × Nat × List Int)), lv = .int .i64 n' ∧ n' ≤ k + 2 ∧ L'.length = N ∧ Ub w wx u gm p g' c' L' n' M' ti rs' M' mv (M'.map (·.1)))
        case first =>
          obtain ⟨d0, d1, d2, d3, d4, d5⟩ := (unhide HOP).cells
          dsimp only at d0 d1 d2 d3 d4 d5
          rw [unhide HBL] at d5
          have hsz1 := (unhide HUB).bel.size
          have hf := (unhide HUB).ud.hp.fine
          have HOF : Hid (¬ ft u gm p g go) := hide ((unhide HUB).ud.noftT (unhide HOP) (by decide) (by decide) (by decide))
          have hbd : Below wo.heap.size wo wo.drew := below_drew (Below.refl _ _)
          have HHP := hide (uHeap_any ((unhide HUB).ud.below hbd))
          by_cases h1 : x0 = 1
          · subst h1
            clear z0
            as_aux_lemma =>
              have HCA := hide (hAlloc_any p g c w.heap.size L x3 x2 wo.drew ((unhide HUB).below hbd).ud.hp (Nat.le_trans hsz1 hbd.size))
              have HLP := hide ((al_len hf x3 x2).trans hLN)
              have HBD := hide hbd
              clear hf hbd
              go_wp2_with fail
              refine wp_region_held_drew (S := fun wq => wq.cell? ⟨go, 3, none⟩ = some (.int .i64 x3) ∧ wq.cell? ⟨go, 2, none⟩ = some (.int .i64 x2)) (by kernel_rfl) ⟨d3, d2⟩ (fun hHeld => ?_)
              refine wpAnyH_take (i := 0) (oi := { dst := some 91, op := Op.move (Operand.tmp 9), type := 28, pos := "law.go:206", after := #[], guard := none }) (v := .pointer (some ⟨u, 0, none⟩)) rfl (by kernel_rfl) (by kernel_rfl) (by kernel_rfl) (fun _ _ _ h => h) (Or.inl ⟨by rfl, fun wq hSw => by (try dsimp only at hSw); go_simp⟩) (by assumption) ?_
              try simp only [Act.put, List.setIfInBounds_toArray, List.set_cons_zero, List.set_cons_succ]
              refine wpAnyH_take (i := 2) (oi := { dst := some 93, op := Op.fieldAddr 37 (Operand.tmp 15) 3, type := 0, pos := "law.go:206", after := #[], guard := none }) (v := .pointer (some ⟨go, 3, none⟩)) rfl (by kernel_rfl) (by kernel_rfl) (by kernel_rfl) (fun _ _ _ h => h) (Or.inl ⟨by rfl, fun wq hSw => by (try dsimp only at hSw); go_simp⟩) (by assumption) ?_
              try simp only [Act.put, List.setIfInBounds_toArray, List.set_cons_zero, List.set_cons_succ]
              refine wpAnyH_take (i := 3) (oi := { dst := some 94, op := Op.load 3 (Operand.tmp 93), type := 3, pos := "law.go:206", after := #[{ on := 2, ground := Ground.data }], guard := none }) (v := .int .i64 x3) rfl (by kernel_rfl) (by kernel_rfl) (by kernel_rfl) (fun _ _ _ h => h) (Or.inl ⟨by rfl, fun wq hSw => by (try dsimp only at hSw); go_simp⟩) (by assumption) ?_
              try simp only [Act.put, List.setIfInBounds_toArray, List.set_cons_zero, List.set_cons_succ]
              refine wpAnyH_take (i := 4) (oi := { dst := some 95, op := Op.fieldAddr 37 (Operand.tmp 15) 2, type := 0, pos := "law.go:206", after := #[], guard := none }) (v := .pointer (some ⟨go, 2, none⟩)) rfl (by kernel_rfl) (by kernel_rfl) (by kernel_rfl) (fun _ _ _ h => h) (Or.inl ⟨by rfl, fun wq hSw => by (try dsimp only at hSw); go_simp⟩) (by assumption) ?_
              try simp only [Act.put, List.setIfInBounds_toArray, List.set_cons_zero, List.set_cons_succ]
              refine wpAnyH_take (i := 5) (oi := { dst := some 96, op := Op.load 3 (Operand.tmp 95), type := 3, pos := "law.go:206", after := #[{ on := 4, ground := Ground.data }], guard := none }) (v := .int .i64 x2) rfl (by kernel_rfl) (by kernel_rfl) (by kernel_rfl) (fun _ _ _ h => h) (Or.inl ⟨by rfl, fun wq hSw => by (try dsimp only at hSw); go_simp⟩) (by assumption) ?_
              try simp only [Act.put, List.setIfInBounds_toArray, List.set_cons_zero, List.set_cons_succ]
              refine wpAnyH_ready (rs := [1]) (by kernel_rfl) (by simp) ?_
              refine AllReadyH.cons (o := { dst := some 92, op := Op.call { callee := Callee.value (Operand.func 10), args := #[Operand.tmp 91], argTypes := #[28] }, type := 25, pos := "law.go:206", after := #[{ on := 0, ground := Ground.data }], guard := none }) rfl (fun K hK => ?_) AllReadyH.nil
              go_simp
              refine (unhide HHP).mono ?_
              rintro e w1 ⟨rfl, hw1⟩
              subst hw1
              refine hK.out _ _ hHeld (fun hHeld1 => ?_)
              clear hK K hHeld
              try simp only [Act.put, List.setIfInBounds_toArray, List.set_cons_zero, List.set_cons_succ]
              refine wpAnyH_ready (rs := [6]) (by kernel_rfl) (by simp) ?_
              refine AllReadyH.cons (o := { dst := some 97, op := Op.call { callee := Callee.value (Operand.func 11), args := #[Operand.tmp 92, Operand.tmp 94, Operand.tmp 96], argTypes := #[25, 3, 3] }, type := 38, pos := "law.go:206", after := #[{ on := 1, ground := Ground.data }, { on := 3, ground := Ground.data }, { on := 5, ground := Ground.data }, { on := 1, ground := Ground.chain }], guard := none }) rfl (fun K hK => ?_) AllReadyH.nil
              go_simp
              refine (unhide HCA).mono ?_
              rintro e w2 ⟨rfl, g2, c2, hh2, ht2⟩
              have hop2 := ((unhide HOP).below (unhide HBD)).turn (turn_ft ht2) (unhide HOF)
              obtain ⟨f0, f1, f2, f3, f4, f5⟩ := hop2.cells
              dsimp only at f0 f1 f2 f3 f4 f5
              rw [unhide HBL] at f5
              refine hK.out _ _ ⟨f3, f2⟩ (fun hHeld2 => ?_)
              clear hK K hHeld1
              try simp only [Act.put, List.setIfInBounds_toArray, List.set_cons_zero, List.set_cons_succ]
              refine wpAnyH_done (by kernel_rfl) ?_ _

              have HUB2 := hide (((unhide HUB).below (unhide HBD)).heap hh2 ht2 ((unhide HLP).trans hLN.symm))
              clear hh2 ht2 hop2 f0 f1 f2 f3 f4 f5 hHeld2 HCA HHP HBD d0 d1 d2 d3 d4 d5
              go_wp2
              go_meet
              case rel => exact ⟨n, g2, c2, _, M, rs, rfl, by omega, unhide HLP, unhide HUB2⟩
          have n1 : (x0 == 1) = false := by rw [beq_eq_false_iff_ne]; exact h1
          clear h1
          by_cases h2 : x0 = 2
          · subst h2
            clear z0
            as_aux_lemma =>
              have HCA := hide (hFree_any p g c w.heap.size L x1 wo.drew ((unhide HUB).below hbd).ud.hp (Nat.le_trans hsz1 hbd.size))
              have HLP := hide ((frB_fine hf x1).2.trans hLN)
              have HBD := hide hbd
              clear hf hbd
              go_wp2_with fail
              refine wp_region_held_drew (S := fun wq => wq.cell? ⟨go, 1, none⟩ = some (.int .i64 x1)) (by kernel_rfl) d1 (fun hHeld => ?_)
              refine wpAnyH_take (i := 0) (oi := { dst := some 100, op := Op.move (Operand.tmp 9), type := 28, pos := "law.go:208", after := #[], guard := none }) (v := .pointer (some ⟨u, 0, none⟩)) rfl (by kernel_rfl) (by kernel_rfl) (by kernel_rfl) (fun _ _ _ h => h) (Or.inl ⟨by rfl, fun wq hSw => by (try dsimp only at hSw); go_simp⟩) (by assumption) ?_
              try simp only [Act.put, List.setIfInBounds_toArray, List.set_cons_zero, List.set_cons_succ]
              refine wpAnyH_take (i := 2) (oi := { dst := some 102, op := Op.fieldAddr 37 (Operand.tmp 15) 1, type := 0, pos := "law.go:208", after := #[], guard := none }) (v := .pointer (some ⟨go, 1, none⟩)) rfl (by kernel_rfl) (by kernel_rfl) (by kernel_rfl) (fun _ _ _ h => h) (Or.inl ⟨by rfl, fun wq hSw => by (try dsimp only at hSw); go_simp⟩) (by assumption) ?_
              try simp only [Act.put, List.setIfInBounds_toArray, List.set_cons_zero, List.set_cons_succ]
              refine wpAnyH_take (i := 3) (oi := { dst := some 103, op := Op.load 3 (Operand.tmp 102), type := 3, pos := "law.go:208", after := #[{ on := 2, ground := Ground.data }], guard := none }) (v := .int .i64 x1) rfl (by kernel_rfl) (by kernel_rfl) (by kernel_rfl) (fun _ _ _ h => h) (Or.inl ⟨by rfl, fun wq hSw => by (try dsimp only at hSw); go_simp⟩) (by assumption) ?_
              try simp only [Act.put, List.setIfInBounds_toArray, List.set_cons_zero, List.set_cons_succ]
              refine wpAnyH_ready (rs := [1]) (by kernel_rfl) (by simp) ?_
              refine AllReadyH.cons (o := { dst := some 101, op := Op.call { callee := Callee.value (Operand.func 10), args := #[Operand.tmp 100], argTypes := #[28] }, type := 25, pos := "law.go:208", after := #[{ on := 0, ground := Ground.data }], guard := none }) rfl (fun K hK => ?_) AllReadyH.nil
              go_simp
              refine (unhide HHP).mono ?_
              rintro e w1 ⟨rfl, hw1⟩
              subst hw1
              refine hK.out _ _ hHeld (fun hHeld1 => ?_)
              clear hK K hHeld
              try simp only [Act.put, List.setIfInBounds_toArray, List.set_cons_zero, List.set_cons_succ]
              refine wpAnyH_ready (rs := [4]) (by kernel_rfl) (by simp) ?_
              refine AllReadyH.cons (o := { dst := some 104, op := Op.call { callee := Callee.value (Operand.func 12), args := #[Operand.tmp 101, Operand.tmp 103], argTypes := #[25, 3] }, type := 32, pos := "law.go:208", after := #[{ on := 1, ground := Ground.data }, { on := 3, ground := Ground.data }, { on := 1, ground := Ground.chain }], guard := none }) rfl (fun K hK => ?_) AllReadyH.nil
              go_simp
              refine (unhide HCA).mono ?_
              rintro e w2 ⟨rfl, g2, c2, hh2, ht2⟩
              have hop2 := ((unhide HOP).below (unhide HBD)).turn (turn_ft ht2) (unhide HOF)
              obtain ⟨f0, f1, f2, f3, f4, f5⟩ := hop2.cells
              dsimp only at f0 f1 f2 f3 f4 f5
              rw [unhide HBL] at f5
              refine hK.out _ _ f1 (fun hHeld2 => ?_)
              clear hK K hHeld1
              try simp only [Act.put, List.setIfInBounds_toArray, List.set_cons_zero, List.set_cons_succ]
              refine wpAnyH_done (by kernel_rfl) ?_ _

              have HUB2 := hide (((unhide HUB).below (unhide HBD)).heap hh2 ht2 ((unhide HLP).trans hLN.symm))
              clear hh2 ht2 hop2 f0 f1 f2 f3 f4 f5 hHeld2 HCA HHP HBD d0 d1 d2 d3 d4 d5
              go_wp2
              go_meet
              case rel => exact ⟨n, g2, c2, _, M, rs, rfl, by omega, unhide HLP, unhide HUB2⟩
          have n2 : (x0 == 2) = false := by rw [beq_eq_false_iff_ne]; exact h2
          clear h2
          by_cases h3 : x0 = 3
          · subst h3
            clear z0
            as_aux_lemma =>
              have HCA := hide (hWrite_any p g c w.heap.size L x1 x2 ab cb body wo.drew ((unhide HUB).below hbd).ud.hp ((unhide HBODY).below hbd) (by omega))
              rw [unhide HBL] at HCA
              have HLP := hide ((wrB_fine hf x1 x2 body).2.trans hLN)
              have HBD := hide hbd
              clear hf hbd
              go_wp2_with fail
              refine wp_region_held_drew (S := fun wq => wq.cell? ⟨go, 1, none⟩ = some (.int .i64 x1) ∧ wq.cell? ⟨go, 2, none⟩ = some (.int .i64 x2) ∧ wq.cell? ⟨go, 5, none⟩ = some (.slice ab BL cb)) (by kernel_rfl) ⟨d1, d2, d5⟩ (fun hHeld => ?_)
              refine wpAnyH_take (i := 0) (oi := { dst := some 107, op := Op.move (Operand.tmp 9), type := 28, pos := "law.go:210", after := #[], guard := none }) (v := .pointer (some ⟨u, 0, none⟩)) rfl (by kernel_rfl) (by kernel_rfl) (by kernel_rfl) (fun _ _ _ h => h) (Or.inl ⟨by rfl, fun wq hSw => by (try dsimp only at hSw); go_simp⟩) (by assumption) ?_
              try simp only [Act.put, List.setIfInBounds_toArray, List.set_cons_zero, List.set_cons_succ]
              refine wpAnyH_take (i := 2) (oi := { dst := some 109, op := Op.fieldAddr 37 (Operand.tmp 15) 1, type := 0, pos := "law.go:210", after := #[], guard := none }) (v := .pointer (some ⟨go, 1, none⟩)) rfl (by kernel_rfl) (by kernel_rfl) (by kernel_rfl) (fun _ _ _ h => h) (Or.inl ⟨by rfl, fun wq hSw => by (try dsimp only at hSw); go_simp⟩) (by assumption) ?_
              try simp only [Act.put, List.setIfInBounds_toArray, List.set_cons_zero, List.set_cons_succ]
              refine wpAnyH_take (i := 3) (oi := { dst := some 110, op := Op.load 3 (Operand.tmp 109), type := 3, pos := "law.go:210", after := #[{ on := 2, ground := Ground.data }], guard := none }) (v := .int .i64 x1) rfl (by kernel_rfl) (by kernel_rfl) (by kernel_rfl) (fun _ _ _ h => h) (Or.inl ⟨by rfl, fun wq hSw => by (try dsimp only at hSw); go_simp⟩) (by assumption) ?_
              try simp only [Act.put, List.setIfInBounds_toArray, List.set_cons_zero, List.set_cons_succ]
              refine wpAnyH_take (i := 4) (oi := { dst := some 111, op := Op.fieldAddr 37 (Operand.tmp 15) 2, type := 0, pos := "law.go:210", after := #[], guard := none }) (v := .pointer (some ⟨go, 2, none⟩)) rfl (by kernel_rfl) (by kernel_rfl) (by kernel_rfl) (fun _ _ _ h => h) (Or.inl ⟨by rfl, fun wq hSw => by (try dsimp only at hSw); go_simp⟩) (by assumption) ?_
              try simp only [Act.put, List.setIfInBounds_toArray, List.set_cons_zero, List.set_cons_succ]
              refine wpAnyH_take (i := 5) (oi := { dst := some 112, op := Op.load 3 (Operand.tmp 111), type := 3, pos := "law.go:210", after := #[{ on := 4, ground := Ground.data }], guard := none }) (v := .int .i64 x2) rfl (by kernel_rfl) (by kernel_rfl) (by kernel_rfl) (fun _ _ _ h => h) (Or.inl ⟨by rfl, fun wq hSw => by (try dsimp only at hSw); go_simp⟩) (by assumption) ?_
              try simp only [Act.put, List.setIfInBounds_toArray, List.set_cons_zero, List.set_cons_succ]
              refine wpAnyH_take (i := 6) (oi := { dst := some 113, op := Op.fieldAddr 37 (Operand.tmp 15) 5, type := 0, pos := "law.go:210", after := #[], guard := none }) (v := .pointer (some ⟨go, 5, none⟩)) rfl (by kernel_rfl) (by kernel_rfl) (by kernel_rfl) (fun _ _ _ h => h) (Or.inl ⟨by rfl, fun wq hSw => by (try dsimp only at hSw); go_simp⟩) (by assumption) ?_
              try simp only [Act.put, List.setIfInBounds_toArray, List.set_cons_zero, List.set_cons_succ]
              refine wpAnyH_take (i := 7) (oi := { dst := some 114, op := Op.load 22 (Operand.tmp 113), type := 22, pos := "law.go:210", after := #[{ on := 6, ground := Ground.data }], guard := none }) (v := .slice ab BL cb) rfl (by kernel_rfl) (by kernel_rfl) (by kernel_rfl) (fun _ _ _ h => h) (Or.inl ⟨by rfl, fun wq hSw => by (try dsimp only at hSw); go_simp⟩) (by assumption) ?_
              try simp only [Act.put, List.setIfInBounds_toArray, List.set_cons_zero, List.set_cons_succ]
              refine wpAnyH_ready (rs := [1]) (by kernel_rfl) (by simp) ?_
              refine AllReadyH.cons (o := { dst := some 108, op := Op.call { callee := Callee.value (Operand.func 10), args := #[Operand.tmp 107], argTypes := #[28] }, type := 25, pos := "law.go:210", after := #[{ on := 0, ground := Ground.data }], guard := none }) rfl (fun K hK => ?_) AllReadyH.nil
              go_simp
              refine (unhide HHP).mono ?_
              rintro e w1 ⟨rfl, hw1⟩
              subst hw1
              refine hK.out _ _ hHeld (fun hHeld1 => ?_)
              clear hK K hHeld
              try simp only [Act.put, List.setIfInBounds_toArray, List.set_cons_zero, List.set_cons_succ]
              refine wpAnyH_ready (rs := [8]) (by kernel_rfl) (by simp) ?_
              refine AllReadyH.cons (o := { dst := some 115, op := Op.call { callee := Callee.value (Operand.func 13), args := #[Operand.tmp 108, Operand.tmp 110, Operand.tmp 112, Operand.tmp 114], argTypes := #[25, 3, 3, 22] }, type := 32, pos := "law.go:210", after := #[{ on := 1, ground := Ground.data }, { on := 3, ground := Ground.data }, { on := 5, ground := Ground.data }, { on := 7, ground := Ground.data }, { on := 1, ground := Ground.chain }], guard := none }) rfl (fun K hK => ?_) AllReadyH.nil
              go_simp
              refine (unhide HCA).mono ?_
              rintro e w2 ⟨rfl, hh2, ht2⟩
              have hop2 := ((unhide HOP).below (unhide HBD)).turn (turn_ft ht2) (unhide HOF)
              obtain ⟨f0, f1, f2, f3, f4, f5⟩ := hop2.cells
              dsimp only at f0 f1 f2 f3 f4 f5
              rw [unhide HBL] at f5
              refine hK.out _ _ ⟨f1, f2, f5⟩ (fun hHeld2 => ?_)
              clear hK K hHeld1
              try simp only [Act.put, List.setIfInBounds_toArray, List.set_cons_zero, List.set_cons_succ]
              refine wpAnyH_done (by kernel_rfl) ?_ _

              have HUB2 := hide (((unhide HUB).below (unhide HBD)).heap hh2 ht2 ((unhide HLP).trans hLN.symm))
              clear hh2 ht2 hop2 f0 f1 f2 f3 f4 f5 hHeld2 HCA HHP HBD d0 d1 d2 d3 d4 d5
              go_wp2
              go_meet
              case rel => exact ⟨n, g, c, _, M, rs, rfl, by omega, unhide HLP, unhide HUB2⟩
          have n3 : (x0 == 3) = false := by rw [beq_eq_false_iff_ne]; exact h3
          clear h3
          by_cases h4 : x0 = 4
          · subst h4
            clear z0
            as_aux_lemma =>
              have HCA := hide (roSet_any ((unhide HUB).below hbd).ud.hp (Nat.le_trans hsz1 hbd.size) s x1 z4)
              have HLP := hide ((seF_fine hf s x1).2.trans hLN)
              have HBD := hide hbd
              clear hf hbd
              go_wp2_with fail
              refine wp_region_held_drew (S := fun wq => wq.cell? ⟨go, 4, none⟩ = some (.string s) ∧ wq.cell? ⟨go, 1, none⟩ = some (.int .i64 x1)) (by kernel_rfl) ⟨d4, d1⟩ (fun hHeld => ?_)
              refine wpAnyH_take (i := 0) (oi := { dst := some 118, op := Op.move (Operand.tmp 9), type := 28, pos := "law.go:212", after := #[], guard := none }) (v := .pointer (some ⟨u, 0, none⟩)) rfl (by kernel_rfl) (by kernel_rfl) (by kernel_rfl) (fun _ _ _ h => h) (Or.inl ⟨by rfl, fun wq hSw => by (try dsimp only at hSw); go_simp⟩) (by assumption) ?_
              try simp only [Act.put, List.setIfInBounds_toArray, List.set_cons_zero, List.set_cons_succ]
              refine wpAnyH_take (i := 2) (oi := { dst := some 120, op := Op.fieldAddr 37 (Operand.tmp 15) 4, type := 0, pos := "law.go:212", after := #[], guard := none }) (v := .pointer (some ⟨go, 4, none⟩)) rfl (by kernel_rfl) (by kernel_rfl) (by kernel_rfl) (fun _ _ _ h => h) (Or.inl ⟨by rfl, fun wq hSw => by (try dsimp only at hSw); go_simp⟩) (by assumption) ?_
              try simp only [Act.put, List.setIfInBounds_toArray, List.set_cons_zero, List.set_cons_succ]
              refine wpAnyH_take (i := 3) (oi := { dst := some 121, op := Op.load 9 (Operand.tmp 120), type := 9, pos := "law.go:212", after := #[{ on := 2, ground := Ground.data }], guard := none }) (v := .string s) rfl (by kernel_rfl) (by kernel_rfl) (by kernel_rfl) (fun _ _ _ h => h) (Or.inl ⟨by rfl, fun wq hSw => by (try dsimp only at hSw); go_simp⟩) (by assumption) ?_
              try simp only [Act.put, List.setIfInBounds_toArray, List.set_cons_zero, List.set_cons_succ]
              refine wpAnyH_take (i := 4) (oi := { dst := some 122, op := Op.fieldAddr 37 (Operand.tmp 15) 1, type := 0, pos := "law.go:212", after := #[], guard := none }) (v := .pointer (some ⟨go, 1, none⟩)) rfl (by kernel_rfl) (by kernel_rfl) (by kernel_rfl) (fun _ _ _ h => h) (Or.inl ⟨by rfl, fun wq hSw => by (try dsimp only at hSw); go_simp⟩) (by assumption) ?_
              try simp only [Act.put, List.setIfInBounds_toArray, List.set_cons_zero, List.set_cons_succ]
              refine wpAnyH_take (i := 5) (oi := { dst := some 123, op := Op.load 3 (Operand.tmp 122), type := 3, pos := "law.go:212", after := #[{ on := 4, ground := Ground.data }], guard := none }) (v := .int .i64 x1) rfl (by kernel_rfl) (by kernel_rfl) (by kernel_rfl) (fun _ _ _ h => h) (Or.inl ⟨by rfl, fun wq hSw => by (try dsimp only at hSw); go_simp⟩) (by assumption) ?_
              try simp only [Act.put, List.setIfInBounds_toArray, List.set_cons_zero, List.set_cons_succ]
              refine wpAnyH_ready (rs := [1]) (by kernel_rfl) (by simp) ?_
              refine AllReadyH.cons (o := { dst := some 119, op := Op.call { callee := Callee.value (Operand.func 10), args := #[Operand.tmp 118], argTypes := #[28] }, type := 25, pos := "law.go:212", after := #[{ on := 0, ground := Ground.data }], guard := none }) rfl (fun K hK => ?_) AllReadyH.nil
              go_simp
              refine (unhide HHP).mono ?_
              rintro e w1 ⟨rfl, hw1⟩
              subst hw1
              refine hK.out _ _ hHeld (fun hHeld1 => ?_)
              clear hK K hHeld
              try simp only [Act.put, List.setIfInBounds_toArray, List.set_cons_zero, List.set_cons_succ]
              refine wpAnyH_ready (rs := [6]) (by kernel_rfl) (by simp) ?_
              refine AllReadyH.cons (o := { dst := some 124, op := Op.call { callee := Callee.value (Operand.func 14), args := #[Operand.tmp 119, Operand.tmp 121, Operand.tmp 123], argTypes := #[25, 9, 3] }, type := 42, pos := "law.go:212", after := #[{ on := 1, ground := Ground.data }, { on := 3, ground := Ground.data }, { on := 5, ground := Ground.data }, { on := 1, ground := Ground.chain }], guard := none }) rfl (fun K hK => ?_) AllReadyH.nil
              go_simp
              refine (unhide HCA).mono ?_
              rintro e w2 ⟨rfl, g2, c2, hh2, ht2⟩
              have hop2 := ((unhide HOP).below (unhide HBD)).turn (turn_ft ht2) (unhide HOF)
              obtain ⟨f0, f1, f2, f3, f4, f5⟩ := hop2.cells
              dsimp only at f0 f1 f2 f3 f4 f5
              rw [unhide HBL] at f5
              refine hK.out _ _ ⟨f4, f1⟩ (fun hHeld2 => ?_)
              clear hK K hHeld1
              try simp only [Act.put, List.setIfInBounds_toArray, List.set_cons_zero, List.set_cons_succ]
              refine wpAnyH_done (by kernel_rfl) ?_ _

              have HUB2 := hide (((unhide HUB).below (unhide HBD)).heap hh2 ht2 ((unhide HLP).trans hLN.symm))
              clear hh2 ht2 hop2 f0 f1 f2 f3 f4 f5 hHeld2 HCA HHP HBD d0 d1 d2 d3 d4 d5
              go_wp2
              go_meet
              case rel => exact ⟨n, g2, c2, _, M, rs, rfl, by omega, unhide HLP, unhide HUB2⟩
          have n4 : (x0 == 4) = false := by rw [beq_eq_false_iff_ne]; exact h4
          clear h4
          by_cases h5 : x0 = 5
          · subst h5
            clear z0
            as_aux_lemma =>
              have HCA := hide (roUnset_any ((unhide HUB).below hbd).ud.hp (Nat.le_trans hsz1 hbd.size) s z4)
              have HLP := hide ((unF_fine hf s).2.trans hLN)
              have HBD := hide hbd
              clear hf hbd
              go_wp2_with fail
              refine wp_region_held_drew (S := fun wq => wq.cell? ⟨go, 4, none⟩ = some (.string s)) (by kernel_rfl) d4 (fun hHeld => ?_)
              refine wpAnyH_take (i := 0) (oi := { dst := some 127, op := Op.move (Operand.tmp 9), type := 28, pos := "law.go:214", after := #[], guard := none }) (v := .pointer (some ⟨u, 0, none⟩)) rfl (by kernel_rfl) (by kernel_rfl) (by kernel_rfl) (fun _ _ _ h => h) (Or.inl ⟨by rfl, fun wq hSw => by (try dsimp only at hSw); go_simp⟩) (by assumption) ?_
              try simp only [Act.put, List.setIfInBounds_toArray, List.set_cons_zero, List.set_cons_succ]
              refine wpAnyH_take (i := 2) (oi := { dst := some 129, op := Op.fieldAddr 37 (Operand.tmp 15) 4, type := 0, pos := "law.go:214", after := #[], guard := none }) (v := .pointer (some ⟨go, 4, none⟩)) rfl (by kernel_rfl) (by kernel_rfl) (by kernel_rfl) (fun _ _ _ h => h) (Or.inl ⟨by rfl, fun wq hSw => by (try dsimp only at hSw); go_simp⟩) (by assumption) ?_
              try simp only [Act.put, List.setIfInBounds_toArray, List.set_cons_zero, List.set_cons_succ]
              refine wpAnyH_take (i := 3) (oi := { dst := some 130, op := Op.load 9 (Operand.tmp 129), type := 9, pos := "law.go:214", after := #[{ on := 2, ground := Ground.data }], guard := none }) (v := .string s) rfl (by kernel_rfl) (by kernel_rfl) (by kernel_rfl) (fun _ _ _ h => h) (Or.inl ⟨by rfl, fun wq hSw => by (try dsimp only at hSw); go_simp⟩) (by assumption) ?_
              try simp only [Act.put, List.setIfInBounds_toArray, List.set_cons_zero, List.set_cons_succ]
              refine wpAnyH_ready (rs := [1]) (by kernel_rfl) (by simp) ?_
              refine AllReadyH.cons (o := { dst := some 128, op := Op.call { callee := Callee.value (Operand.func 10), args := #[Operand.tmp 127], argTypes := #[28] }, type := 25, pos := "law.go:214", after := #[{ on := 0, ground := Ground.data }], guard := none }) rfl (fun K hK => ?_) AllReadyH.nil
              go_simp
              refine (unhide HHP).mono ?_
              rintro e w1 ⟨rfl, hw1⟩
              subst hw1
              refine hK.out _ _ hHeld (fun hHeld1 => ?_)
              clear hK K hHeld
              try simp only [Act.put, List.setIfInBounds_toArray, List.set_cons_zero, List.set_cons_succ]
              refine wpAnyH_ready (rs := [4]) (by kernel_rfl) (by simp) ?_
              refine AllReadyH.cons (o := { dst := some 131, op := Op.call { callee := Callee.value (Operand.func 15), args := #[Operand.tmp 128, Operand.tmp 130], argTypes := #[25, 9] }, type := 32, pos := "law.go:214", after := #[{ on := 1, ground := Ground.data }, { on := 3, ground := Ground.data }, { on := 1, ground := Ground.chain }], guard := none }) rfl (fun K hK => ?_) AllReadyH.nil
              go_simp
              refine (unhide HCA).mono ?_
              rintro e w2 ⟨rfl, g2, c2, hh2, ht2⟩
              have hop2 := ((unhide HOP).below (unhide HBD)).turn (turn_ft ht2) (unhide HOF)
              obtain ⟨f0, f1, f2, f3, f4, f5⟩ := hop2.cells
              dsimp only at f0 f1 f2 f3 f4 f5
              rw [unhide HBL] at f5
              refine hK.out _ _ f4 (fun hHeld2 => ?_)
              clear hK K hHeld1
              try simp only [Act.put, List.setIfInBounds_toArray, List.set_cons_zero, List.set_cons_succ]
              refine wpAnyH_done (by kernel_rfl) ?_ _

              have HUB2 := hide (((unhide HUB).below (unhide HBD)).heap hh2 ht2 ((unhide HLP).trans hLN.symm))
              clear hh2 ht2 hop2 f0 f1 f2 f3 f4 f5 hHeld2 HCA HHP HBD d0 d1 d2 d3 d4 d5
              go_wp2
              go_meet
              case rel => exact ⟨n, g2, c2, _, M, rs, rfl, by omega, unhide HLP, unhide HUB2⟩
          have n5 : (x0 == 5) = false := by rw [beq_eq_false_iff_ne]; exact h5
          clear h5
          by_cases h8 : x0 = 8
          · subst h8
            clear z0
            as_aux_lemma =>
              have HHQ := hide (uHeap_any (unhide HUB).ud)
              have HCA := hide (mvAll_any (unhide HUB).ud.hp hsz1)
              have HLP := hide ((mvA_as hf).1.len.trans hLN)
              clear hf hbd HHP d0 d1 d2 d3 d4 d5
              go_wp2_with fail
              refine (unhide HHQ).mono ?_
              rintro e w1 ⟨rfl, hw1⟩
              subst hw1
              clear HHQ
              go_wp2_with fail
              refine (unhide HCA).mono ?_
              rintro e w2 ⟨rfl, g2, c2, hh2, ht2⟩
              have HUB2 := hide ((unhide HUB).heap hh2 ht2 ((unhide HLP).trans hLN.symm))
              clear hh2 ht2 HCA
              go_wp2
              go_meet
              case rel => exact ⟨n, g2, c2, _, M, rs, rfl, by omega, unhide HLP, unhide HUB2⟩
          have n8 : (x0 == 8) = false := by rw [beq_eq_false_iff_ne]; exact h8
          clear h8
          as_aux_lemma =>
            have HMK := hide (uMark_any (unhide HUB).ud hsz1 (by omega))
            have HNM := hide (unhide HUB).ud.num
            have HMC : Hid (M.length ≤ 900) := hide (by have := mks_len (unhide HUB).ud; omega)
            clear hbd HHP d0 d1 d2 d3 d4 d5
            go_wp2_with fail
            refine (unhide HMK).mono ?_
            rintro e w1 ⟨rfl, hud1, ht1⟩
            have hub1 := (unhide HUB).turn hud1 ht1
            have HBY := hide (hBytes_any p g c w.heap.size L w1 hub1.ud.hp)
            rw [hLN] at HBY
            have HUB1 := hide hub1
            clear hud1 ht1 hub1 HMK
            go_wp2_with fail
            refine (unhide HBY).mono ?_
            rintro e w2 ⟨a2', c2, rfl, ho2, hb2⟩
            rw [← hLN] at ho2
            have hub2 := (unhide HUB1).below hb2
            have hown2 := Own1.fresh (unhide HUB1).ud (unhide HUB1).bel.size ho2 hub2.ud.hp.byt (by have := hub2.ud.hp.len; omega)
            obtain ⟨r2, hr2⟩ : ∃ r2, rs[n + 1]? = some r2 := ⟨rs[n + 1]'(by have := hub2.tl; omega), List.getElem?_eq_getElem _⟩
            have hc2 := hub2.cell hr2
            have hf2 := hub2.fr (n + 1)
            have hl2 := hub2.tlt
            have hub3 := hub2.put (i := n + 1) (by omega) hown2 (fun x hx e => by have := unhide HNM x hx; omega) (z := (n : Int) + 1) (by omega)
            dsimp only at hub3
            rw [hLN] at hub3
            have HUB3 := hide hub3
            have hlr2 : (r2.2.2.length : Int) = (r2.2.2.length : Int) := rfl
            clear ho2 hb2 hub2 hown2 hub3 HBY HUB1 hlr2 hr2
            obtain ⟨q1, q2, q3⟩ := r2
            dsimp only at hc2
            generalize q3.length = ql at *
            have hn1 : ((n : Int) + 1) < 100 := by omega
            have hn0 : 0 ≤ ((n : Int) + 1) := by omega
            have HUB4 := hide ((unhide HUB3).below ((Below.refl _ (w2.setCell ⟨ti, n + 1, none⟩ (.slice a2' N c2))).alloc (Nat.le_refl _) (.cells #[.int .i64 ((n : Int) + 1)] 3)))
            have HNEW : Hid (((w2.setCell ⟨ti, n + 1, none⟩ (.slice a2' N c2)).alloc (.cells #[.int .i64 ((n : Int) + 1)] 3)).heap[w2.heap.size]? = some (.cells (inC ((n : Int) + 1)).toArray 3 (0, 0))) := hide (by
              have := heap_alloc_new (w2.setCell ⟨ti, n + 1, none⟩ (.slice a2' N c2)) (.cells #[.int .i64 ((n : Int) + 1)] 3)
              rw [show (w2.setCell ⟨ti, n + 1, none⟩ (.slice a2' N c2)).heap.size = w2.heap.size by simp] at this
              exact this)
            have hml : (M.map (·.1)).length ≤ 900 := by rw [List.length_map]; exact unhide HMC
            clear HUB3
            go_wp2_with (at_builtin; refine wpList_append_lst2 rfl _ _ 24 rfl w.heap.size i0 (.int .i64 0) 8 Tryz.underlying24 hi0 hz0 hz1 hz2 rfl (by decide) (by decide) _ (M.map (·.1)) rfl (unhide HUB4).row w2.heap.size ((n : Int) + 1) rfl (unhide HNEW) rfl (inU_one _) (by omega) (unhide HUB4).bel.size ?_)
            intro v9 w9 hL9 hb9 hk9
            have hL9' : Lst inC 1 3 w9 w.heap.size v9 ((M ++ [((n : Int) + 1, L)]).map (·.1)) := by rw [List.map_append]; exact hL9
            have HUB9 := hide ((unhide HUB4).grow (unhide HUB4).row hb9 (fun j hj hn => hk9 j (by simpa using hj) hn) hL9')
            obtain ⟨va9, vm9, vc9, rfl⟩ := hL9.shape
            clear hL9 hL9' hb9 hk9 HUB4 HNEW
            go_wp2
            go_meet
            case rel => exact ⟨n + 1, g, c, L, M ++ [((n : Int) + 1, L)], _, by go_num, by omega, hLN, unhide HUB9⟩
        case rest =>
          as_aux_lemma =>
            obtain ⟨n', g', c', L', M', rs', rfl, hn', hL', hub'⟩ := hcut
            have HUB' := hide hub'
            obtain ⟨vb, vmb, vcb, hvb⟩ := hub'.row.shape
            subst hvb
            clear hub' HUB HBODY HOP HBL
            by_cases hkb : k < bk.length
            · have hneb : bk ≠ [] := by intro e; rw [e] at hkb; simp at hkb
              obtain ⟨bb, ob, rfl, hcb⟩ := (unhide HBK).2.2.2 hneb
              have q0 := hcb k hkb
              rw [← (unhide HUB').bel.cell (block_lt_of_cell q0)] at q0
              have hm := (unhide HBK).1 (bk.getD k 0) (by
                have : bk.getD k 0 = bk[k] := by simp [List.getD, hkb]
                rw [this]; exact List.getElem_mem hkb)
              have hkbi : ¬ ((k : Int) ≥ (bk.length : Int)) := by omega
              have hkbl : (k : Int) < (bk.length : Int) := by omega
              clear hneb hcb
              generalize bk.getD k 0 = m at *
              have hmlen := mks_len (unhide HUB').ud
              obtain ⟨sa, sc, hsv, hsl⟩ := (unhide HUB').row.sls inC_len (by rw [List.length_map]; omega)
              simp only [Value.slice.injEq] at hsv
              obtain ⟨rfl, rfl, rfl⟩ := hsv
              have HSL := hide hsl
              have HANY : Hid ((M'.map (·.1)).any (fun y => y == m) = (mkAt M' m).isSome) := hide (any_mk M' m)
              have hsll : (M'.map (·.1)).length ≤ 900 := by rw [List.length_map]; omega
              clear hsl
              generalize hMS : M'.map (·.1) = MS at *
              have HMS := hide hMS
              clear hMS
              go_wp2_with fail
              go_loop [18, 19] (fun bv jv => ∃ j : Nat, j ≤ MS.length ∧ jv = .int .i64 j ∧ bv = .bool ((MS.take j).any (fun y => y == m))) (fun _ jv => MS.length - (intOf jv).toNat)
              case atStart => exact ⟨0, Nat.zero_le _, rfl, rfl⟩
              case round =>
                obtain ⟨j, hj, rfl, rfl⟩ := hrel
                by_cases hlj : j < MS.length
                · have hneM : MS ≠ [] := by intro e; rw [e] at hlj; simp at hlj
                  obtain ⟨b3, o3, rfl, hc3⟩ := (unhide HSL).2.2.2 hneM
                  obtain ⟨y, hy⟩ : ∃ y, MS[j]? = some y := ⟨MS[j], List.getElem?_eq_getElem hlj⟩
                  have r0 := Sls.num (cap := 0) hc3 hy
                  have HAT := hide (any_take (m := m) hy)
                  clear hc3 hy hneM
                  generalize (MS.take j).any (fun y => y == m) = B0 at *
                  cases B0 with
                  | true =>
                    go_wp2
                    go_round
                    case rel => exact ⟨j + 1, by omega, by go_num, by rw [unhide HAT]; rfl⟩
                    case measure => simp [intOf]; omega
                  | false =>
                    generalize hyb : (y == m) = YB at *
                    have HYB := hide hyb
                    cases YB with
                    | true =>
                      go_wp2
                      go_round
                      case rel => exact ⟨j + 1, by omega, by go_num, by rw [unhide HAT]; rfl⟩
                      case measure => simp [intOf]; omega
                    | false =>
                      go_wp2
                      go_round
                      case rel => exact ⟨j + 1, by omega, by go_num, by rw [unhide HAT]; rfl⟩
                      case measure => simp [intOf]; omega
                · have hjM : j = MS.length := by omega
                  rw [hjM, List.take_length, unhide HANY]
                  have hjl : ¬ ((MS.length : Int) < (MS.length : Int)) := by omega
                  cases hmk : mkAt M' m with
                  | none =>
                    dsimp only [Option.isSome]
                    as_aux_lemma =>
                      have HCH := hide (uChanges_no (unhide HUB').ud hm hmk)
                      rw [errV_pos 5 (by decide)] at HCH
                      have HBKN := hide (uBack_no (unhide HUB').ud hm hmk)
                      rw [errV_pos 5 (by decide)] at HBKN
                      have HLE := hide hL'
                      go_wp2_with fail
                      refine (unhide HCH).mono ?_
                      rintro e w1 ⟨rfl, hw1⟩
                      subst hw1
                      clear HCH
                      go_wp2_with fail
                      refine (unhide HBKN).mono ?_
                      rintro e w2 ⟨rfl, hb2⟩
                      have HUBE := hide ((unhide HUB').below hb2)
                      have HMSE := HMS
                      clear hb2 HBKN HUB' hmk
                      have HMR := hide (uMarks_row (unhide HUBE).ud (by omega))
                      rw [unhide HMSE] at HMR
                      go_wp2_with fail
                      refine (unhide HMR).mono ?_
                      rintro e we ⟨dv, rfl, hLe, hbe⟩
                      have hubE := (unhide HUBE).below hbe
                      obtain ⟨da, dc, rfl, hsd⟩ := hLe.sls inC_len (by omega)
                      obtain ⟨ea, ec, he2, hse⟩ := hubE.row.sls inC_len (by omega)
                      simp only [Value.slice.injEq, true_and] at he2
                      obtain ⟨rfl, rfl⟩ := he2
                      have HSM := hide (insame_any da _ dc _ _ we hsd hse)
                      have HUBF := hide hubE
                      clear hLe hbe hubE hsd hse HMR HUBE
                      go_wp2_with fail
                      refine (unhide HSM).mono ?_
                      rintro e wf ⟨rfl, hbf⟩
                      have HUBG := hide ((unhide HUBF).below hbf)
                      clear hbf HSM HUBF
                      go_wp2
                      go_roundw
                      case rel => exact ⟨k + 1, n', _, _, _, _, _, by omega, by omega, by go_num, rfl, by omega, unhide HLE, by rw [unhide HMSE]; exact unhide HUBG⟩
                      case measure => simp [intOf]; omega
                  | some I =>
                    dsimp only [Option.isSome]
                    as_aux_lemma =>
                      have hmm := (unhide HUB').ud.num _ (mkAt_mem hmk)
                      obtain ⟨hfI, hlI⟩ := (unhide HUB').ud.img _ (mkAt_mem hmk)
                      obtain ⟨rr, hrr, hrI⟩ := (unhide HUB').im _ (mkAt_mem hmk)
                      dsimp only at hmm hfI hlI hrr hrI
                      rw [hL'] at hlI
                      obtain ⟨mN, rfl⟩ := Int.eq_ofNat_of_zero_le (show 0 ≤ m by omega)
                      rw [Int.toNat_natCast] at hrr
                      obtain ⟨qa, qc, ql⟩ := rr
                      dsimp only at hrI
                      subst hrI
                      have HOWN := hide ((unhide HUB').own _ (List.mem_of_getElem? hrr))
                      have HRR := hide hrr
                      have HCH := hide (uChanges_yes (unhide HUB').ud hm hmk)
                      rw [hlI] at HCH
                      have hdl : ql.length = L'.length := by rw [hlI, hL']
                      have HDP : Hid (∀ x ∈ dfK ql L' N, ∃ p n : Nat, x.1 = (p : Int) ∧ 1 ≤ n ∧ p + n ≤ N ∧ x.2.1 = (ql.drop p).take n ∧ x.2.2 = (L'.drop p).take n ∧ x.2.1.length = n ∧ x.2.2.length = n) := hide (fun x hx => by
                        have := dfK_parts hdl (c := x) (by rw [hlI]; exact hx)
                        rw [hlI] at this
                        exact this)
                      have HTD := hide (dfK_told ql L' N)
                      have hdN := difN_le ql L' N
                      have hDl : (dfK ql L' N).length ≤ N := by
                        have h1 := told_len (dfK ql L' N) (fun x hx => by
                          obtain ⟨_, n, _, h1, _, _, _, _, h2⟩ := unhide HDP x hx
                          omega)
                        have h2 := unhide HTD
                        omega
                      have HBKY := hide (fun (W : World) (hW : Below wc.heap.size wc W) => uBack_yes ((unhide HUB').below hW).ud ((unhide HUB').below hW).bel.size hm hmk)
                      have HMK := hide hmk
                      have HLI := hide hlI
                      have HL' := hide hL'
                      have hN2 := (unhide HUB').ud.hp.len
                      rw [hL'] at hN2
                      clear hmk hfI hrr hdl
                      generalize dfK ql L' N = DD at *
                      go_wp2_with fail
                      refine (unhide HCH).mono ?_
                      rintro e w1 ⟨v1, rfl, hch1, hb1⟩
                      obtain ⟨a5, c5, rfl, hcs1⟩ := hch1.chs (by omega)
                      have hub1 := (unhide HUB').below hb1
                      have HBY := hide (hBytes_any p g' c' w.heap.size L' w1 hub1.ud.hp)
                      rw [hL'] at HBY
                      have HUB1 := hide hub1
                      have HW1 := hide hb1
                      have HCS1 := hide hcs1
                      have hcl5 := hcs1.len
                      clear hch1 hcs1 hb1 hub1 HCH
                      go_wp2_with fail
                      refine (unhide HBY).mono ?_
                      rintro e w2 ⟨a6, c6, rfl, ho6, hb6⟩
                      have hub2 := (unhide HUB1).below hb6
                      have hct2 := hub2.cell (unhide HRR)
                      dsimp only at hct2
                      rw [hlI] at hct2
                      rw [← hL'] at ho6
                      have hbs6 := ho6.bsAt' hub2.ud.hp.byt (by omega)
                      have hbsq : Bs w2 qa qc ql := (hub2.own _ (List.mem_of_getElem? (unhide HRR))).bs
                      have HBS6 := hide hbs6
                      have HBSQ := hide hbsq
                      have HCS2 := hide ((unhide HCS1).below hb6)
                      have HW2 := hide ((unhide HW1).trans (hb6.mono (unhide HW1).size))
                      have HUB2 := hide hub2
                      have hmi : ((mN : Int)) < 100 := by omega
                      clear ho6 hb6 hbs6 hbsq hub2 HBY HUB1 HW1 HCS1
                      go_wp2_with fail
                      go_loopw [24, 25] (fun tv jv wr => ∃ (j qn : Nat), j ≤ DD.length ∧ jv = .int .i64 j ∧ tv = .int .i64 (tldN (DD.take j)) ∧ wr = w2.drewN qn) (fun _ jv _ => DD.length - (intOf jv).toNat)
                      case atStart => exact ⟨0, 0, Nat.zero_le _, rfl, rfl, rfl⟩
                      case round =>
                        obtain ⟨j, qn, hj, rfl, rfl, rfl⟩ := hrel
                        by_cases hlj : j < DD.length
                        · as_aux_lemma =>
                            obtain ⟨b5, o5, a7, c7, a8, c8, rfl, r0, r1, r2, hbo, hbn⟩ := (unhide HCS2).at hlj
                            have hxm : DD.getD j (0, [], []) ∈ DD := by
                              have : DD.getD j (0, [], []) = DD[j] := by simp [List.getD, hlj]
                              rw [this]; exact List.getElem_mem hlj
                            have htk : tldN (DD.take (j + 1)) = tldN (DD.take j) + (DD.getD j (0, [], [])).2.2.length := by
                              refine tldN_take ?_
                              rw [List.getElem?_eq_getElem hlj]
                              simp [List.getD, hlj]
                            obtain ⟨P, n5, e1, e2, e3, e4, e5, e6, e7⟩ := unhide HDP _ hxm
                            have htl : tldN (DD.take j) ≤ N := by
                              have h1 := tldN_append (DD.take j) (DD.drop j)
                              rw [List.take_append_drop] at h1
                              have h2 := unhide HTD
                              omega
                            generalize DD.getD j (0, [], []) = X at *
                            obtain ⟨X1, X2, X3⟩ := X
                            dsimp only at *
                            subst e1
                            rw [e6] at r1
                            rw [e7] at r2 htk
                            obtain ⟨s1, hs1, hb1⟩ := slice_lohi (P := Tryz.prog) (t := 22) Tryz.underlying22 size_u8 (unhide HBS6) P (P + n5) (by omega) (by rw [unhide HL']; exact e3)
                            obtain ⟨s2, hs2, hb2⟩ := slice_lohi (P := Tryz.prog) (t := 22) Tryz.underlying22 size_u8 (unhide HBSQ) P (P + n5) (by omega) (by rw [unhide HLI]; exact e3)
                            rw [show P + n5 - P = n5 by omega, show ((P + n5 : Nat) : Int) = (P : Int) + n5 by omega] at hs1 hs2
                            rw [show P + n5 - P = n5 by omega] at hb1 hb2
                            rw [unhide HL'] at hs1
                            rw [unhide HLI] at hs2
                            rw [← e5] at hb1
                            rw [← e4] at hb2
                            have hcv1 : ∀ d, (convert 22 9 (.slice s1 n5 (c6 - P))).run Tryz.prog ((w2.drewN qn).drewN d) = .ok (.string (strOf X3)) ((w2.drewN qn).drewN d) := fun d => by
                              have := conv_str (P := Tryz.prog) (t := 22) (e := 9) Tryz.underlying22 Tryz.underlying5 Tryz.underlying9 (hb1.below (below_drewN (below_drewN (Below.refl _ w2) qn) d))
                              rw [e7] at this
                              exact this
                            have hcv2 : ∀ d, (convert 22 9 (.slice a8 n5 c8)).run Tryz.prog ((w2.drewN qn).drewN d) = .ok (.string (strOf X3)) ((w2.drewN qn).drewN d) := fun d => by
                              have := conv_str (P := Tryz.prog) (t := 22) (e := 9) Tryz.underlying22 Tryz.underlying5 Tryz.underlying9 (hbn.below (below_drewN (below_drewN (Below.refl _ w2) qn) d))
                              rw [e7] at this
                              exact this
                            have hcv3 : ∀ d, (convert 22 9 (.slice s2 n5 (qc - P))).run Tryz.prog ((w2.drewN qn).drewN d) = .ok (.string (strOf X2)) ((w2.drewN qn).drewN d) := fun d => by
                              have := conv_str (P := Tryz.prog) (t := 22) (e := 9) Tryz.underlying22 Tryz.underlying5 Tryz.underlying9 (hb2.below (below_drewN (below_drewN (Below.refl _ w2) qn) d))
                              rw [e6] at this
                              exact this
                            have hcv4 : ∀ d, (convert 22 9 (.slice a7 n5 c7)).run Tryz.prog ((w2.drewN qn).drewN d) = .ok (.string (strOf X2)) ((w2.drewN qn).drewN d) := fun d => by
                              have := conv_str (P := Tryz.prog) (t := 22) (e := 9) Tryz.underlying22 Tryz.underlying5 Tryz.underlying9 (hbo.below (below_drewN (below_drewN (Below.refl _ w2) qn) d))
                              rw [e6] at this
                              exact this
                            have r0' : (w2.drewN qn).cell? ⟨b5, o5 + j * 3, none⟩ = some (.int .i64 (P : Int)) := r0
                            have r1' : (w2.drewN qn).cell? ⟨b5, o5 + j * 3 + 1, none⟩ = some (.slice a7 n5 c7) := r1
                            have r2' : (w2.drewN qn).cell? ⟨b5, o5 + j * 3 + 2, none⟩ = some (.slice a8 n5 c8) := r2
                            have hbl5 : b5 < (w2.drewN qn).heap.size := block_lt_of_cell r0'
                            have hji : (j : Int) < (DD.length : Int) := by omega
                            have HTK := hide htk
                            clear r0 r1 r2 hbo hbn hb1 hb2 hxm htk e4 e5 e6 e7 HDP HCS2 HBS6 HBSQ HOWN HRR HBKY HUB2 HUB' HMK HTD hct2
                            generalize strOf X3 = S3 at *
                            generalize strOf X2 = S2 at *
                            generalize hTJ : tldN (DD.take j) = TJ at *
                            clear hTJ
                            generalize hWQ : w2.drewN qn = WQ at *
                            have HWQ := hide hWQ
                            clear hWQ
                            generalize c6 - P = c6P at *
                            generalize qc - P = qcP at *
                            go_wp2_with fail
                            go_quiet (fail)
                            go_wp2
                            go_roundw
                            case rel => exact ⟨j + 1, qn + nq, by omega, by go_num, by rw [unhide HTK]; go_num, by rw [← unhide HWQ]; exact drewN_add _ _ _⟩
                            case measure => simp [intOf]; omega
                        · as_aux_lemma =>
                            have hjD : j = DD.length := by omega
                            have htd : tldN (DD.take j) = difN ql L' N := by rw [hjD, List.take_length]; exact unhide HTD
                            rw [htd]
                            have hjl : ¬ ((j : Int) < (DD.length : Int)) := by omega
                            clear hjD htd HTD HDP HCS2 hlj
                            generalize hTD : difN ql L' N = TD at *
                            have HTD2 := hide hTD
                            clear hTD
                            go_wp2_with fail
                            go_loopw [26, 27] (fun mv jv wr => ∃ (i qm : Nat), i ≤ N ∧ jv = .int .i64 i ∧ mv = .int .i64 (difN ql L' i) ∧ wr = w2.drewN qm) (fun _ jv _ => N - (intOf jv).toNat)
                            case atStart => exact ⟨0, qn, Nat.zero_le _, rfl, rfl, rfl⟩
                            case round =>
                              obtain ⟨i, qm, hi, rfl, rfl, rfl⟩ := hrel
                              by_cases hli : i < N
                              · as_aux_lemma =>
                                  obtain ⟨b6, o6, hq6, r6⟩ := (unhide HBS6).at i (by rw [unhide HL']; exact hli)
                                  obtain ⟨b7, o7, hq7, r7⟩ := (unhide HBSQ).at i (by rw [unhide HLI]; exact hli)
                                  subst hq6
                                  subst hq7
                                  have hds : difN ql L' (i + 1) = difN ql L' i + if ql.getD i 0 = L'.getD i 0 then 0 else 1 := rfl
                                  have hdb := difN_le ql L' i
                                  have r6' : (w2.drewN qm).cell? ⟨b6, o6 + i, none⟩ = some (.int .u8 (L'.getD i 0)) := r6
                                  have r7' : (w2.drewN qm).cell? ⟨b7, o7 + i, none⟩ = some (.int .u8 (ql.getD i 0)) := r7
                                  have hli2 : (i : Int) < (N : Int) := by omega
                                  have HDS := hide hds
                                  clear r6 r7 hds HBS6 HBSQ HOWN HRR HBKY HUB2 HUB' HMK hct2
                                  generalize hDI : difN ql L' i = DI at *
                                  clear hDI
                                  generalize L'.getD i 0 = x at *
                                  generalize ql.getD i 0 = y at *
                                  generalize hWQ : w2.drewN qm = WQ at *
                                  have HWQ := hide hWQ
                                  clear hWQ
                                  by_cases hxy : y = x
                                  · rw [if_pos hxy] at HDS
                                    have hxb : (x != y) = false := by simp [hxy]
                                    clear hxy
                                    go_wp2_with fail
                                    go_quiet (fail)
                                    go_wp2
                                    go_roundw
                                    case rel => exact ⟨i + 1, qm + nq, by omega, by go_num, by rw [unhide HDS]; go_num, by rw [← unhide HWQ]; exact drewN_add _ _ _⟩
                                    case measure => simp [intOf]; omega
                                  · rw [if_neg hxy] at HDS
                                    have hxb : (x != y) = true := bne_iff_ne.2 (fun e => hxy e.symm)
                                    clear hxy
                                    go_wp2_with fail
                                    go_quiet (fail)
                                    go_wp2
                                    go_roundw
                                    case rel => exact ⟨i + 1, qm + nq, by omega, by go_num, by rw [unhide HDS]; go_num, by rw [← unhide HWQ]; exact drewN_add _ _ _⟩
                                    case measure => simp [intOf]; omega
                              · as_aux_lemma =>
                                  have hiN : i = N := by omega
                                  rw [hiN, unhide HTD2]
                                  have hbw := below_drewN (Below.refl w2.heap.size w2) qm
                                  have hWQ' := (unhide HW2).trans (hbw.mono (unhide HW2).size)
                                  have HBK5 := hide (unhide HBKY _ hWQ')
                                  have HUB3 := hide ((unhide HUB2).below hbw)
                                  have hNl : ¬ ((N : Int) < (N : Int)) := by omega
                                  clear hiN hbw hWQ' HBKY HUB2 HBS6 HBSQ hct2 HW2 hli hi HTD2
                                  generalize w2.drewN qm = w4 at *
                                  go_wp2_with fail
                                  refine (unhide HBK5).mono ?_
                                  rintro e w5 ⟨rfl, g5, c5', hud5, ht5⟩
                                  have hub5 := (unhide HUB3).turn hud5 ht5
                                  have hmb5 : ∀ b, (Value.slice vb MS.length vcb).ownBlock = some b → b < w5.heap.size := fun b hb => by
                                    rcases hub5.row.2 with ⟨e2, _⟩ | ⟨g1, cap1', cur1, e2, _, hc1, _⟩
                                    · rw [e2] at hb; cases hb
                                    · rw [e2] at hb
                                      simp [Value.ownBlock] at hb
                                      subst hb
                                      exact (Array.getElem?_eq_some_iff.1 hc1).1
                                  have HUB5 := hide hub5
                                  have hB5 := hub5.bel.size
                                  have HMB5 := hide hmb5
                                  clear hud5 ht5 hub5 hmb5 HBK5 HUB3
                                  go_wp2_with fail
                                  go_loopw [28, 29] (fun lv jv wr => ∃ (i : Nat) (lv' : Value), lv = lv' ∧ i ≤ MS.length ∧ jv = .int .i64 i ∧ Lst inC 1 3 wr w5.heap.size lv' ((MS.take i).filter (fun y => decide (y ≤ (mN : Int)))) ∧ Ub w wr u gm p g5 c5' ql n' (mkCut M' mN) ti rs' M' (.slice vb MS.length vcb) MS ∧ w5.heap.size ≤ wr.heap.size) (fun _ jv _ => MS.length - (intOf jv).toNat)
                                  case atStart => exact ⟨0, _, rfl, Nat.zero_le _, rfl, Lst.nil _ _, unhide HUB5, Nat.le_refl _⟩
                                  case round =>
                                    obtain ⟨i, lv', hlv, hi, rfl, hLl, hubl, hszl⟩ := hrel
                                    subst hlv
                                    obtain ⟨la, lm, lc, rfl⟩ := hLl.shape
                                    clear HUB5
                                    by_cases hli : i < MS.length
                                    · as_aux_lemma =>
                                        have hneM : MS ≠ [] := by intro e; rw [e] at hli; simp at hli
                                        obtain ⟨sa, sc, hsv, hsl⟩ := hubl.row.sls inC_len (by omega)
                                        simp only [Value.slice.injEq, true_and] at hsv
                                        obtain ⟨rfl, rfl⟩ := hsv
                                        obtain ⟨b3, o3, rfl, hc3⟩ := hsl.2.2.2 hneM
                                        obtain ⟨y, hy⟩ : ∃ y, MS[i]? = some y := ⟨MS[i], List.getElem?_eq_getElem hli⟩
                                        have r0 := Sls.num (cap := 0) hc3 hy
                                        have hft := fil_take (m := (mN : Int)) hy
                                        have hfl : ((MS.take i).filter (fun y => decide (y ≤ (mN : Int)))).length ≤ 900 := by
                                          refine Nat.le_trans (List.length_filter_le _ _) ?_
                                          rw [List.length_take]
                                          omega
                                        have hili : (i : Int) < (MS.length : Int) := by omega
                                        clear hc3 hy hneM hsl
                                        by_cases hym : y ≤ (mN : Int)
                                        · rw [if_pos hym] at hft
                                          have HFT := hide hft
                                          have hba : Below wr.heap.size wr (wr.alloc (.cells #[.int .i64 y] 3)) := (Below.refl _ _).alloc (Nat.le_refl _) _
                                          have HLA := hide (hLl.below hba)
                                          have HUA := hide (hubl.below hba)
                                          have HNEW : Hid ((wr.alloc (.cells #[.int .i64 y] 3)).heap[wr.heap.size]? = some (.cells (inC y).toArray 3 (0, 0))) := hide (heap_alloc_new wr _)
                                          have HSZ := hide hszl
                                          have HBKL := hide (fun b (hb : (Value.slice la lm lc).ownBlock = some b) => hLl.block b hb)
                                          have hsz2 : w5.heap.size ≤ (wr.alloc (.cells #[.int .i64 y] 3)).heap.size := by rw [sz_alloc]; omega
                                          have HSZ2 := hide hsz2
                                          clear hft hLl hubl hszl hba hsz2
                                          generalize (MS.take i).filter (fun y => decide (y ≤ (mN : Int))) = FL at *
                                          go_wp2_with (at_builtin; refine wpList_append_lst2 rfl _ _ 24 rfl w5.heap.size i0 (.int .i64 0) 8 Tryz.underlying24 hi0 hz0 hz1 hz2 rfl (by decide) (by decide) _ FL rfl (unhide HLA) wr.heap.size y rfl (unhide HNEW) rfl (inU_one _) (by omega) (unhide HSZ2) ?_)
                                          intro v9 w9 hL9 hb9 hk9
                                          have hk9' : ∀ j, j < (wr.alloc (.cells #[.int .i64 y] 3)).heap.size → (Value.slice la lm lc).ownBlock ≠ some j → w9.heap[j]? = (wr.alloc (.cells #[.int .i64 y] 3)).heap[j]? := fun j hj hn => hk9 j (by simpa using hj) hn
                                          have hrow9 : Lst inC 1 3 w9 w.heap.size (.slice (some ⟨b3, o3, none⟩) MS.length vcb) MS := by
                                            refine ⟨(unhide HUA).row.1, ?_⟩
                                            rcases (unhide HUA).row.2 with h0 | ⟨g1, cap1', cur1, e1, hB1, hc1, h3⟩
                                            · exact .inl h0
                                            · refine .inr ⟨g1, cap1', cur1, e1, hB1, ?_, h3⟩
                                              rw [hk9' g1 (Array.getElem?_eq_some_iff.1 hc1).1 (fun e => by
                                                have h1 := unhide HBKL g1 e
                                                have h2 := unhide HMB5 g1 (by rw [e1]; rfl)
                                                omega)]
                                              exact hc1
                                          have HUB9 := hide ((unhide HUA).grow ((unhide HLA).lowB2 hB5) (hb9.mono hB5) hk9' hrow9)
                                          rw [← unhide HFT] at hL9
                                          have HL9 := hide hL9
                                          have HS9 := hide (Nat.le_trans (unhide HSZ2) hb9.size)
                                          obtain ⟨va9, vm9, vc9, rfl⟩ := hL9.shape
                                          clear hL9 hb9 hk9 hk9' hrow9 HLA HUA HNEW r0
                                          go_wp2
                                          go_roundw
                                          case rel => exact ⟨i + 1, _, rfl, by omega, by go_num, unhide HL9, unhide HUB9, unhide HS9⟩
                                          case measure => simp [intOf]; omega
                                        · rw [if_neg hym, List.append_nil] at hft
                                          have HFT := hide hft
                                          have HLA := hide hLl
                                          have HUA := hide hubl
                                          have HSZ := hide hszl
                                          have hymb : decide (y ≤ (mN : Int)) = false := decide_eq_false hym
                                          clear hft hLl hubl hszl
                                          go_wp2
                                          go_roundw
                                          case rel => exact ⟨i + 1, _, rfl, by omega, by go_num, by rw [unhide HFT]; exact unhide HLA, unhide HUA, unhide HSZ⟩
                                          case measure => simp [intOf]; omega
                                    · as_aux_lemma =>
                                        have hiM : i = MS.length := by omega
                                        rw [hiM, List.take_length, ← unhide HMS, fil_cut] at hLl
                                        have hNl : ¬ ((i : Int) < (MS.length : Int)) := by omega
                                        have hub6 := hubl.newrow (hLl.lowB2 hB5) (Mj := mkCut M' mN) (fun x hx => (List.mem_filter.1 hx).1)
                                        have hct := hub6.cell (unhide HRR)
                                        dsimp only at hct
                                        have hbsq : Bs wr qa qc ql := (hub6.own _ (List.mem_of_getElem? (unhide HRR))).bs
                                        have hbd : Below wr.heap.size wr wr.drew := below_drew (Below.refl _ _)
                                        have hcv := conv_str (P := Tryz.prog) (t := 22) (e := 9) Tryz.underlying22 Tryz.underlying5 Tryz.underlying9 (hbsq.below hbd)
                                        have hby := bytes_tb p g5 c5' w.heap.size ql qa qc ti mN wr.drew (hub6.below hbd).ud.hp (hbsq.below hbd) hct
                                        rw [unhide HLI] at hct hcv hby
                                        have HY := hide hby
                                        have HBD := hide hbd
                                        have HUB6 := hide hub6
                                        have hml2 := mks_len hub6.ud
                                        have HLE : Hid (ql.length = N) := HLI
                                        have hsll2 : ((mkCut M' mN).map (·.1)).length ≤ 900 := by rw [List.length_map]; omega
                                        clear hiM hLl hubl hszl hub6 hbsq hby hbd hli hi HMB5
                                        generalize strOf ql = SI at *
                                        generalize hMC : (mkCut M' mN).map (·.1) = MC at *
                                        have HMSE := hide hMC
                                        clear hMC
                                        go_upto_region 75 with fail
                                        refine wp_region_held_drew (S := fun wq => wq.cell? ⟨ti, mN, none⟩ = some (.slice qa N qc) ∧ (convert 22 9 (.slice qa N qc)).run Tryz.prog wq = .ok (.string SI) wq) (by kernel_rfl) ⟨hct, hcv⟩ (fun hHeld => ?_)
                                        refine wpAnyH_take (i := 0) (oi := { dst := some 295, op := Op.move (Operand.tmp 7), type := 25, pos := "law.go:271", after := #[], guard := none }) (v := .pointer (some ⟨p, 0, none⟩)) rfl (by kernel_rfl) (by kernel_rfl) (by kernel_rfl) (fun _ _ _ h => h) (Or.inl ⟨by rfl, fun wq hSw => by (try dsimp only at hSw); go_simp⟩) (by assumption) ?_
                                        try simp only [Act.put, List.setIfInBounds_toArray, List.set_cons_zero, List.set_cons_succ]
                                        refine wpAnyH_take (i := 3) (oi := { dst := some 298, op := Op.move (Operand.tmp 11), type := 34, pos := "law.go:271", after := #[], guard := none }) (v := .slice (some ⟨ti, 0, none⟩) 100 100) rfl (by kernel_rfl) (by kernel_rfl) (by kernel_rfl) (fun _ _ _ h => h) (Or.inl ⟨by rfl, fun wq hSw => by (try dsimp only at hSw); go_simp⟩) (by assumption) ?_
                                        try simp only [Act.put, List.setIfInBounds_toArray, List.set_cons_zero, List.set_cons_succ]
                                        refine wpAnyH_take (i := 4) (oi := { dst := some 299, op := Op.move (Operand.tmp 17), type := 3, pos := "law.go:271", after := #[], guard := none }) (v := .int .i64 mN) rfl (by kernel_rfl) (by kernel_rfl) (by kernel_rfl) (fun _ _ _ h => h) (Or.inl ⟨by rfl, fun wq hSw => by (try dsimp only at hSw); go_simp⟩) (by assumption) ?_
                                        try simp only [Act.put, List.setIfInBounds_toArray, List.set_cons_zero, List.set_cons_succ]
                                        refine wpAnyH_take (i := 5) (oi := { dst := some 300, op := Op.indexAddr 34 (Operand.tmp 298) (Operand.tmp 299), type := 0, pos := "law.go:271", after := #[{ on := 3, ground := Ground.data }, { on := 4, ground := Ground.data }], guard := none }) (v := .pointer (some ⟨ti, mN, none⟩)) rfl (by kernel_rfl) (by kernel_rfl) (by kernel_rfl) (fun _ _ _ h => h) (Or.inl ⟨by rfl, fun wq hSw => by (try dsimp only at hSw); go_simp⟩) (by assumption) ?_
                                        try simp only [Act.put, List.setIfInBounds_toArray, List.set_cons_zero, List.set_cons_succ]
                                        refine wpAnyH_take (i := 6) (oi := { dst := some 301, op := Op.load 22 (Operand.tmp 300), type := 22, pos := "law.go:271", after := #[{ on := 5, ground := Ground.data }], guard := none }) (v := .slice qa N qc) rfl (by kernel_rfl) (by kernel_rfl) (by kernel_rfl) (fun _ _ _ h => h) (Or.inl ⟨by rfl, fun wq hSw => by (try dsimp only at hSw); go_simp⟩) (by assumption) ?_
                                        try simp only [Act.put, List.setIfInBounds_toArray, List.set_cons_zero, List.set_cons_succ]
                                        refine wpAnyH_take (i := 7) (oi := { dst := some 302, op := Op.convert 22 9 (Operand.tmp 301), type := 9, pos := "law.go:271", after := #[{ on := 6, ground := Ground.data }], guard := none }) (v := .string SI) rfl (by kernel_rfl) (by kernel_rfl) (by kernel_rfl) (fun _ _ _ h => h) (Or.inl ⟨by rfl, fun wq hSw => by (try dsimp only at hSw); go_simp⟩) (by assumption) ?_
                                        try simp only [Act.put, List.setIfInBounds_toArray, List.set_cons_zero, List.set_cons_succ]
                                        refine wpAnyH_ready (rs := [1]) (by kernel_rfl) (by simp) ?_
                                        refine AllReadyH.cons (o := { dst := some 296, op := Op.call { callee := Callee.value (Operand.func 9), args := #[Operand.tmp 295], argTypes := #[25] }, type := 22, pos := "law.go:271", after := #[{ on := 0, ground := Ground.data }], guard := none }) rfl (fun K hK => ?_) AllReadyH.nil
                                        go_simp
                                        refine (unhide HY).mono ?_
                                        rintro e w8 ⟨a8, c8, rfl, k1, k2, hb8⟩
                                        refine hK.out _ _ k2 (fun _ => wpAnyH_turn (S2 := fun wq => (wq.cell? ⟨ti, mN, none⟩ = some (.slice qa N qc) ∧ (convert 22 9 (.slice qa N qc)).run Tryz.prog wq = .ok (.string SI) wq) ∧ (convert 22 9 (.slice a8 N c8)).run Tryz.prog wq = .ok (.string SI) wq) (fun _ h => h.1) _ _ _ _ ?_)
                                        have hHeld2 := And.intro k2 k1
                                        clear hK K hHeld
                                        try simp only [Act.put, List.setIfInBounds_toArray, List.set_cons_zero, List.set_cons_succ]
                                        refine wpAnyH_take (i := 2) (oi := { dst := some 297, op := Op.convert 22 9 (Operand.tmp 296), type := 9, pos := "law.go:271", after := #[{ on := 1, ground := Ground.data }], guard := none }) (v := .string SI) rfl (by kernel_rfl) (by kernel_rfl) (by kernel_rfl) (fun _ _ _ h => h) (Or.inl ⟨by rfl, fun wq hSw => by (try dsimp only at hSw); go_simp⟩) (by assumption) ?_
                                        try simp only [Act.put, List.setIfInBounds_toArray, List.set_cons_zero, List.set_cons_succ]
                                        refine wpAnyH_take (i := 8) (oi := { dst := some 303, op := Op.binOp BinOp.neq 9 (Operand.tmp 297) (Operand.tmp 302) 9, type := 4, pos := "law.go:271", after := #[{ on := 2, ground := Ground.data }, { on := 7, ground := Ground.data }], guard := none }) (v := .bool false) rfl (by kernel_rfl) (by kernel_rfl) (by kernel_rfl) (fun _ _ _ h => h) (Or.inl ⟨by rfl, fun wq hSw => by (try dsimp only at hSw); go_simp⟩) (by assumption) ?_
                                        try simp only [Act.put, List.setIfInBounds_toArray, List.set_cons_zero, List.set_cons_succ]
                                        refine wpAnyH_done (by kernel_rfl) ?_ _
                                        have hb8' : Below wr.heap.size wr w8 := (unhide HBD).trans hb8
                                        have hub8 := (unhide HUB6).below hb8'
                                        obtain ⟨ea, ec, he2, _⟩ := hub8.row.sls inC_len (by omega)
                                        simp only [Value.slice.injEq] at he2
                                        obtain ⟨rfl, rfl, rfl⟩ := he2
                                        have HUBE := hide hub8
                                        clear hb8 hb8' hub8 k1 k2 hct hcv HY HBD HUB6 hHeld2
                                        have HMR := hide (uMarks_row (unhide HUBE).ud (by omega))
                                        rw [unhide HMSE] at HMR
                                        go_wp2_with fail
                                        refine (unhide HMR).mono ?_
                                        rintro e we ⟨dv, rfl, hLe, hbe⟩
                                        have hubE := (unhide HUBE).below hbe
                                        obtain ⟨da, dc, rfl, hsd⟩ := hLe.sls inC_len (by omega)
                                        obtain ⟨ea, ec, he2, hse⟩ := hubE.row.sls inC_len (by omega)
                                        simp only [Value.slice.injEq, true_and] at he2
                                        obtain ⟨rfl, rfl⟩ := he2
                                        have HSM := hide (insame_any da _ dc _ _ we hsd hse)
                                        have HUBF := hide hubE
                                        clear hLe hbe hubE hsd hse HMR HUBE
                                        go_wp2_with fail
                                        refine (unhide HSM).mono ?_
                                        rintro e wf ⟨rfl, hbf⟩
                                        have HUBG := hide ((unhide HUBF).below hbf)
                                        clear hbf HSM HUBF
                                        go_wp2
                                        go_roundw
                                        case rel => exact ⟨k + 1, n', _, _, _, _, _, by omega, by omega, by go_num, rfl, by omega, unhide HLE, by rw [unhide HMSE]; exact unhide HUBG⟩
                                        case measure => simp [intOf]; omega
            · have hkbi : ((k : Int) ≥ (bk.length : Int)) := by omega
              clear hkb
              go_wp2
              go_roundw
              case rel => exact ⟨k + 1, n', g', c', L', M', rs', by omega, by omega, by go_num, rfl, by omega, hL', unhide HUB'⟩
              case measure => simp [intOf]; omega
    · have HBEL := hide hub.bel
      have hcase : ¬ (k : Int) < (ops.length : Int) ∨ ((k : Int) < (ops.length : Int) ∧ ¬ (k : Int) < 30) := by omega
      clear hub hlt
      rcases hcase with g1 | ⟨g1, g2⟩
      all_goals
        go_wp2
        go_ret
        exact ⟨rfl, unhide HBEL⟩
end Go.Proofs.YtopblhmbjdfebaaGreat
