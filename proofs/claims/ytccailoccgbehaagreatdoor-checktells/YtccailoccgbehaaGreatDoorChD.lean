/-
  Contracts of package check: what is wrong with each object, in a map by handle. (Part of the proofs over package check.)
-/
import Derived.Test.YtccailoccgbehaaGreatDoorChC
import Derived.Maps.OwnSet
import Derived.Maps.AppendAt
namespace Go.Proofs.YtccailoccgbehaaGreatDoor
open Go.RowKit Go.MapKept Go.ChangeMaps Go.Sort Go.Shelf
open Go.Maps (Keyed)
set_option linter.unusedVariables false

/-! ### the map of marks -/
theorem at_none {H : Type} {D : DataW H} {k : Lit} (h : Maps.has D k = false) {z : DataW H} : D.atKey k z = z := by
  cases D <;> try rfl
  rename_i es
  show (match es.find? (fun p => p.1.sameKey k) with | some p => p.2 | none => z) = z
  have : es.find? (fun p => p.1.sameKey k) = none := List.find?_eq_none.2 (fun p hp hs => (List.any_eq_false.1 h p hp) hs)
  rw [this]
/-- The map of marks of these entries: by handle what f says. -/
def Mrk (w : World) (m : Nat) (E : List (Int × Int × Int × Int)) (f : Int → Int) : Prop :=
  ∃ Dm : DataW Unit, w.ownsMap Tryz.prog 3 (plainElem Tryz.prog 3) m E.length Dm ∧ ∀ z : Int, Maps.has Dm (.int .i64 z) = E.any (fun e => e.1 == z) ∧ (E.any (fun e => e.1 == z) = true → ∀ d, Dm.atKey (.int .i64 z) d = .lit (.int .i64 (f z)))
theorem Mrk.made (w : World) (f : Int → Int) : Mrk (w.alloc (.map #[] 0)) w.heap.size [] f := ⟨.map [], World.ownsMap_made w _ _ _, fun z => ⟨rfl, fun h => by cases h⟩⟩
theorem Mrk.lt {w : World} {m : Nat} {E : List (Int × Int × Int × Int)} {f : Int → Int} (h : Mrk w m E f) : m < w.heap.size := by
  obtain ⟨Dm, h1, _⟩ := h
  exact h1.lt
theorem Mrk.same {w w' : World} {m : Nat} {E : List (Int × Int × Int × Int)} {f : Int → Int} (h : Mrk w m E f) (hs : w'.heap[m]? = w.heap[m]?) : Mrk w' m E f := by
  obtain ⟨Dm, ⟨es, clock, hb, r⟩, h2⟩ := h
  exact ⟨Dm, ⟨es, clock, hs.trans hb, r⟩, h2⟩
theorem Mrk.below {w w' : World} {m : Nat} {E : List (Int × Int × Int × Int)} {f : Int → Int} (h : Mrk w m E f) (hb : Below w.heap.size w w') : Mrk w' m E f := h.same (hb.block m h.lt)
theorem info_num : (Tryz.prog.info? 3).map (fun i => (i.zero, i.size, i.bytes)) = some (some (.int .i64 0), 1, 8) := by kernel_rfl
theorem zero_num (w : World) : (zeroValue 3).run Tryz.prog w = .ok (.int .i64 0) w := by
  obtain ⟨i0, hi0, hz0, hz1, hz2⟩ := info_parts info_num
  simp [zeroValue, typeInfo, hi0, hz0]
/-- What stands in the map, and whether it does. -/
def mrkV (E : List (Int × Int × Int × Int)) (f : Int → Int) (z : Int) : Int := if E.any (fun e => e.1 == z) = true then f z else 0
theorem Mrk.look {w : World} {m : Nat} {E : List (Int × Int × Int × Int)} {f : Int → Int} (h : Mrk w m E f) (z : Int) (hz : -9223372036854775808 ≤ z ∧ z ≤ 9223372036854775807) :
    (Instr.lookup 59 (.map (some m)) (.int .i64 z) true).run Tryz.prog w = .ok (.tuple #[.int .i64 (mrkV E f z), .bool (E.any (fun e => e.1 == z))]) w := by
  obtain ⟨Dm, h1, h2⟩ := h
  have hwf : (Lit.int .i64 z).wf = true := WalkArith.wf_i64 hz
  have hkey := Maps.keyOf_int_mk (P := Tryz.prog) Tryz.underlying3 hwf
  obtain ⟨v, ps, hrun, hv⟩ := h1.look_ok (Maps.int_keyed Tryz.underlying3) Tryz.underlying59 (zero_num w) (plainElem_int Tryz.underlying3 (a := 0) (by decide)) hkey
  obtain ⟨a, rfl, he, _⟩ := plainElem_int_inv Tryz.underlying3 hv
  have he' := congrArg Prod.fst he
  dsimp only at he'
  rw [hrun, (h2 z).1]
  unfold mrkV
  cases hq : E.any (fun e => e.1 == z) with
  | true =>
    rw [if_pos rfl]
    rw [(h2 z).2 hq] at he'
    simp only [DataW.lit.injEq, Lit.int.injEq, true_and] at he'
    rw [he']
  | false =>
    rw [if_neg (by simp)]
    rw [at_none (by rw [(h2 z).1]; exact hq)] at he'
    simp only [DataW.lit.injEq, Lit.int.injEq, true_and] at he'
    rw [he']
theorem Mrk.store {w : World} {m : Nat} {E : List (Int × Int × Int × Int)} {f : Int → Int} (h : Mrk w m E f) (hk : E.length ≤ 300) (e : (Int × Int × Int × Int)) (hz : -9223372036854775808 ≤ e.1 ∧ e.1 ≤ 9223372036854775807) (hf : -9223372036854775808 ≤ f e.1 ∧ f e.1 ≤ 9223372036854775807) :
    ∃ w', (Instr.mapUpdate 59 (.map (some m)) (.int .i64 e.1) (.int .i64 (f e.1))).run Tryz.prog w = .ok () w' ∧ Mrk w' m (E ++ [e]) f ∧ w.mapTurned w' m := by
  obtain ⟨Dm, h1, h2⟩ := h
  have hwf : (Lit.int .i64 e.1).wf = true := WalkArith.wf_i64 hz
  have hkey := Maps.keyOf_int_mk (P := Tryz.prog) Tryz.underlying3 hwf
  obtain ⟨w', hrun, hown', ht⟩ := h1.store (Maps.int_keyed Tryz.underlying3) Tryz.underlying59 (by unfold maxLen; omega) hkey (plainElem_int Tryz.underlying3 (a := f e.1) (WalkArith.wf_i64 hf))
  have hlit : WideAt.IsKeyLit (.int .i64 e.1) := (Maps.int_keyed Tryz.underlying3).key hkey
  refine ⟨w', hrun, ⟨_, by rw [List.length_append]; exact hown', fun z => ?_⟩, ht⟩
  rw [List.any_append]
  by_cases hj : z = e.1
  · subst hj
    rw [Maps.has_put_same h1.isMap hlit]
    refine ⟨by simp, fun _ d => Maps.atKey_put_same h1.isMap hlit _ _⟩
  · have hne : Lit.int .i64 z ≠ Lit.int .i64 e.1 := by
      intro e; simp only [Lit.int.injEq, true_and] at e; exact hj e
    have e0 : (e.1 == z) = false := by
      rw [beq_eq_false_iff_ne]
      exact fun e => hj e.symm
    rw [Maps.has_put_other hne, List.any_cons, List.any_nil, e0, Bool.or_false, Bool.or_false]
    refine ⟨(h2 z).1, fun hq d => ?_⟩
    rw [Maps.atKey_put_other hne]
    exact (h2 z).2 hq d

/-! ### entries, one by one -/
theorem mem_entsK {L : List Int} {e : (Int × Int × Int × Int)} : ∀ {k : Nat}, e ∈ entsK L k ↔ ∃ j : Nat, j < k ∧ tagAt L ((j : Int) + 1) ≠ 0 ∧ e = entOf L ((j : Int) + 1)
  | 0 => by simp [entsK]
  | k + 1 => by
    unfold entsK
    rw [List.mem_append, mem_entsK]
    by_cases ht : tagAt L ((k : Int) + 1) = 0
    · rw [if_pos ht]
      constructor
      · rintro (⟨j, h1, h2⟩ | h2)
        · exact ⟨j, by omega, h2⟩
        · cases h2
      · rintro ⟨j, h1, h2, h3⟩
        by_cases e : j = k
        · subst e; exact absurd ht h2
        · exact .inl ⟨j, by omega, h2, h3⟩
    · rw [if_neg ht]
      constructor
      · rintro (⟨j, h1, h2⟩ | h2)
        · exact ⟨j, by omega, h2⟩
        · exact ⟨k, by omega, ht, List.mem_singleton.1 h2⟩
      · rintro ⟨j, h1, h2, h3⟩
        by_cases e : j = k
        · subst e; exact .inr (List.mem_singleton.2 h3)
        · exact .inl ⟨j, by omega, h2, h3⟩
theorem ents_at {L : List Int} {e : (Int × Int × Int × Int)} {k : Nat} : ∀ {m : Nat}, (entsK L m)[k]? = some e → ∃ j : Nat, j < m ∧ tagAt L ((j : Int) + 1) ≠ 0 ∧ e = entOf L ((j : Int) + 1) ∧ (entsK L m).take k = entsK L j
  | 0, h => by simp [entsK] at h
  | m + 1, h => by
    by_cases hk : k < (entsK L m).length
    · have h' : (entsK L m)[k]? = some e := by
        unfold entsK at h
        rwa [List.getElem?_append_left hk] at h
      obtain ⟨j, h1, h2, h3, h4⟩ := ents_at h'
      refine ⟨j, by omega, h2, h3, ?_⟩
      show (entsK L m ++ _).take k = _
      rw [List.take_append_of_le_length (by omega)]
      exact h4
    · unfold entsK at h
      rw [List.getElem?_append_right (by omega)] at h
      by_cases ht : tagAt L ((m : Int) + 1) = 0
      · rw [if_pos ht] at h; simp at h
      · rw [if_neg ht] at h
        have hk0 : k = (entsK L m).length := by
          have := (List.getElem?_eq_some_iff.1 h).1
          simp at this
          omega
        subst hk0
        rw [Nat.sub_self] at h
        refine ⟨m, by omega, ht, (Option.some.inj h).symm, ?_⟩
        show (entsK L m ++ _).take _ = _
        rw [List.take_append_of_le_length (Nat.le_refl _), List.take_length]
def exOf (e : (Int × Int × Int × Int)) : Int × Int := (e.2.1, e.2.2.1)
theorem exOf_in {L : List Int} {h : Int} (hb : Byt L) (hl : 288 ≤ L.length) (h1 : 1 ≤ h) (h2 : h ≤ 40) : InI (exOf (entOf L h)) := by
  have hp := plc_le h1 h2
  unfold exOf entOf InI
  dsimp only
  rw [getV_two _ _ (by omega), getV_two _ _ (by omega)]
  have e1 := hb.getD (plc h + 1)
  have e2 := hb.getD (plc h + 1 + 1)
  have e3 := hb.getD (plc h + 3)
  have e4 := hb.getD (plc h + 3 + 1)
  omega
theorem inI_zero : InI (0, 0) := by unfold InI; decide
def inIB (e : Int × Int) : Bool := decide ((-9223372036854775808 ≤ e.1 ∧ e.1 ≤ 9223372036854775807) ∧ -9223372036854775808 ≤ e.2 ∧ e.2 ≤ 9223372036854775807)
theorem inIB_iff {e : Int × Int} : inIB e = true ↔ InI e := by unfold inIB InI; rw [decide_eq_true_iff]
def mkEx (e : Int × Int) : Ex := if h : inIB e = true then ⟨e, inIB_iff.1 h⟩ else ⟨(0, 0), inI_zero⟩
theorem mkEx_val {e : Int × Int} (h : InI e) : (mkEx e).1 = e := by unfold mkEx; rw [dif_pos (inIB_iff.2 h)]
/-- The extents of those that are not Stray. -/
def takenE (L : List Int) (E : List (Int × Int × Int × Int)) : List Ex := (E.filter (fun e => decide (putE L e = 0))).map (fun e => mkEx (exOf e))
theorem takenE_len (L : List Int) (E : List (Int × Int × Int × Int)) : (takenE L E).length ≤ E.length := by unfold takenE; rw [List.length_map]; exact List.length_filter_le _ _
/-- What the map says of a handle. -/
def mkV (L : List Int) (h : Int) : Int := if whE L h = 3 then 1 else if whE L h = 2 then 2 else 0
theorem mkV_in (L : List Int) (h : Int) : -9223372036854775808 ≤ mkV L h ∧ mkV L h ≤ 9223372036854775807 := by
  unfold mkV
  split
  · omega
  · split <;> omega
theorem there_put {L : List Int} {e : (Int × Int × Int × Int)} (h : putE L e = 0) : there L.length (exOf e) = true := by
  obtain ⟨_, _, h3⟩ := putE_zero.1 h
  exact there_iff.2 (by unfold exOf; dsimp only; omega)
theorem what_mkV {L : List Int} {j : Nat} (hb : Byt L) (hq : lenB L.length = true) (hj : j < 40) (ht : tagAt L ((j : Int) + 1) ≠ 0) : whatL L (entOf L ((j : Int) + 1)) (takenE L (entsK L j)) = mkV L ((j : Int) + 1) := by
  have hl := lenB_iff.1 hq
  unfold whatL mkV
  by_cases h0 : putE L (entOf L ((j : Int) + 1)) = 0
  · rw [if_neg (by rw [h0]; simp)]
    have hw3 : whE L ((j : Int) + 1) ≠ 3 := by
      unfold whE
      rw [if_neg ht, if_neg (by rw [h0]; simp)]
      split <;> omega
    rw [if_neg hw3]
    have hany : (takenE L (entsK L j)).any (fun x => twoB L.length x.1 ((entOf L ((j : Int) + 1)).2.1, (entOf L ((j : Int) + 1)).2.2.1)) = lapK L ((j : Int) + 1) j := by
      have hiff : (takenE L (entsK L j)).any (fun x => twoB L.length x.1 (exOf (entOf L ((j : Int) + 1)))) = true ↔ lapK L ((j : Int) + 1) j = true := by
        rw [List.any_eq_true, lapK_iff]
        have key : ∀ i : Nat, i < j → putE L (entOf L ((i : Int) + 1)) = 0 → twoB L.length (mkEx (exOf (entOf L ((i : Int) + 1)))).1 (exOf (entOf L ((j : Int) + 1))) = lapB (entOf L ((j : Int) + 1)) (entOf L ((i : Int) + 1)) := fun i hi hp => by
          rw [mkEx_val (exOf_in hb (by omega) (by omega) (by omega)), twoB_over (by omega) (by omega) (there_put hp) (there_put h0)]
          rfl
        constructor
        · rintro ⟨x, hx, hxt⟩
          unfold takenE at hx
          obtain ⟨e, he, rfl⟩ := List.mem_map.1 hx
          obtain ⟨he1, he2⟩ := List.mem_filter.1 he
          obtain ⟨i, hi, hti, rfl⟩ := mem_entsK.1 he1
          have hp := of_decide_eq_true he2
          rw [key i hi hp] at hxt
          exact ⟨i, hi, by unfold okE; rw [Bool.and_eq_true, decide_eq_true_iff, decide_eq_true_iff]; exact ⟨hti, hp⟩, hxt⟩
        · rintro ⟨i, hi, hok, hlap⟩
          unfold okE at hok
          rw [Bool.and_eq_true, decide_eq_true_iff, decide_eq_true_iff] at hok
          refine ⟨mkEx (exOf (entOf L ((i : Int) + 1))), ?_, by rw [key i hi hok.2]; exact hlap⟩
          exact List.mem_map.2 ⟨_, List.mem_filter.2 ⟨mem_entsK.2 ⟨i, hi, hok.1, rfl⟩, decide_eq_true hok.2⟩, rfl⟩
      unfold exOf at hiff
      cases h3 : (takenE L (entsK L j)).any (fun x => twoB L.length x.1 ((entOf L ((j : Int) + 1)).2.1, (entOf L ((j : Int) + 1)).2.2.1)) <;> cases h4 : lapK L ((j : Int) + 1) j
      · rfl
      · rw [h3, h4] at hiff; simp at hiff
      · rw [h3, h4] at hiff; simp at hiff
      · rfl
    rw [hany]
    have hjn : ((j : Int) + 1 - 1).toNat = j := by omega
    have hw : whE L ((j : Int) + 1) = if lapK L ((j : Int) + 1) j = true then 2 else 1 := by
      unfold whE
      rw [if_neg ht, if_neg (by rw [h0]; simp), hjn]
    rw [hw]
    cases lapK L ((j : Int) + 1) j with
    | true => rfl
    | false => rfl
  · rw [if_pos h0]
    have hw3 : whE L ((j : Int) + 1) = 3 := by
      unfold whE
      rw [if_neg ht, if_pos h0]
    rw [if_pos hw3]
theorem what_one {L : List Int} {e : (Int × Int × Int × Int)} {T : List Ex} : whatL L e T = 1 ↔ putE L e ≠ 0 := by
  unfold whatL
  by_cases h0 : putE L e = 0
  · rw [if_neg (by rw [h0]; simp)]
    constructor
    · intro h; split at h <;> omega
    · intro h; exact absurd h0 h
  · rw [if_pos h0]
    exact ⟨fun _ => h0, fun _ => rfl⟩
theorem takenE_yes {L : List Int} {E : List (Int × Int × Int × Int)} {e : (Int × Int × Int × Int)} (h : putE L e = 0) : takenE L (E ++ [e]) = takenE L E ++ [mkEx (exOf e)] := by
  unfold takenE
  rw [List.filter_append, List.map_append]
  simp [h]
theorem takenE_no {L : List Int} {E : List (Int × Int × Int × Int)} {e : (Int × Int × Int × Int)} (h : putE L e ≠ 0) : takenE L (E ++ [e]) = takenE L E := by
  unfold takenE
  rw [List.filter_append, List.map_append]
  simp [h]

/-! ### marksOf -/
/-- 'append(v, y)', y one thing: no block has turned but v's own. -/
theorem wpList_append_lst2 {α : Type} {enc : α → List Value} {k T : Nat} {P : Program} {w : World} {ops : Array Oper} {rest : List Oper} {o : Oper} {a : Act} {Q : Exit → Act → World → Prop} (hgd : o.guard = none) (s x : Operand) (t : TypeId)
    (ho : o.op = .call { callee := .builtin .append, args := #[s, x], argTypes := #[t, t] }) (B : Nat) (i0 : TypeInfo) (z : Value) (bytes : Nat)
    (ht : P.underlying t = some (.slice T)) (hi : P.info? T = some i0) (hz : i0.zero = some z) (hsize : i0.size = k) (hby : i0.bytes = bytes) (hzs : z.cells.size = k) (hsz : 0 < k) (hbb : bytes ≤ 100)
    (v : Value) (l : List α) (hs : a.eval s = v) (hown : Lst enc k T w B v l) (g : Nat) (y : α) (hx : a.eval x = .slice (some ⟨g, 0, none⟩) 1 1)
    (hy : w.heap[g]? = some (.cells (enc y).toArray T (0, 0))) (hk : (enc y).length = k) (h1 : ∀ u ∈ enc y, u.oneCell' = true) (hn : l.length ≤ 1000) (hB : B ≤ w.heap.size)
    (h : ∀ v' w', Lst enc k T w' B v' (l ++ [y]) → Below B w w' → (∀ j, j < w.heap.size → v.ownBlock ≠ some j → w'.heap[j]? = w.heap[j]?) → wpList P ops Q rest (a.put o.dst v') w') :
    wpList P ops Q (o :: rest) a w := by
  refine wpList_append_own w hgd s x t ho B T i0 z k bytes ht hi hz hsize hby hzs hsz v l.length (l.flatMap enc) hs hown ⟨g, 0, none⟩ 1 1 (enc y) hx (by rw [hk, Nat.one_mul]) (fun j u hj => ?_) h1 (by unfold maxLen; omega) (Nat.le_trans (Nat.mul_le_mul (show l.length + 1 ≤ 1001 by omega) hbb) (by decide)) hB ?_
  · rw [addr_add, Nat.zero_add, cell_of_row _ _ _ _ _ _ hy]
    simpa using hj
  · intro v' w' ho' hg' _
    refine h v' w' ?_ ((Below.refl _ _).grown hg' hB (fun k hk => hown.block k hk)) (fun j hj hne => hg'.block j hj (fun e => hne e.symm))
    unfold Lst
    rw [List.length_append, List.flatMap_append]
    simpa using ho'
theorem Lst.old {α : Type} {enc : α → List Value} {k T : Nat} {w : World} {B : Nat} {v : Value} {l : List α} (h : Lst enc k T w B v l) : ∀ g, v.ownBlock = some g → g < w.heap.size := by
  intro g hg
  rcases h.2 with ⟨rfl, _⟩ | ⟨g', cap', cur, rfl, hB, hc, _⟩
  · cases hg
  · simp [Value.ownBlock] at hg
    subst hg
    exact (Array.getElem?_eq_some_iff.1 hc).1
theorem Lst.turned {α : Type} {enc : α → List Value} {k T : Nat} {w w' : World} {B m : Nat} {v : Value} {l : List α} (h : Lst enc k T w B v l) (ht : w.mapTurned w' m) (hm : m < B) : Lst enc k T w' B v l := by
  obtain ⟨es, clock, es', clock', hb, rfl⟩ := ht
  refine ⟨h.1, ?_⟩
  rcases h.2 with h0 | ⟨g, cap, cur, rfl, hB, hc, h3⟩
  · exact .inl h0
  · exact .inr ⟨g, cap, cur, rfl, hB, (heap_setBlock_other hb _ (by omega)).trans hc, h3⟩
set_option maxHeartbeats 2000000 in
theorem marksOf_any (L : List Int) (ea : Option Addr) (ec : Nat) (w : World) (hb : Byt L) (hq : lenB L.length = true) (hE : Sls enC 4 w ea ec (entsK L 40)) :
    Calls Tryz.prog 22 #[.int .i64 L.length, .slice ea (entsK L 40).length ec] w fun r w' => r = .returned (.map (some w.heap.size)) ∧ Mrk w' w.heap.size (entsK L 40) (mkV L) ∧ Below w.heap.size w w' := by
  have hl := lenB_iff.1 hq
  obtain ⟨i0, hi0, hz0, hz1, hz2⟩ := info_parts info_ext
  have HEL := hide (entsK_len L 40)
  have HAT := hide (fun (k : Nat) (e : (Int × Int × Int × Int)) (h : (entsK L 40)[k]? = some e) => ents_at h)
  have HE := hide hE
  have hel := hE.2.2.1
  have HBY := hide hb
  have HQ := hide hq
  have hmm := @run_makeMap Tryz.prog
  generalize hEE : entsK L 40 = E at *
  clear hE hb hq hEE
  go_enter Tryz.func22, Tryz.ntmps22
  go_wp2_with fail
  go_loopw [6, 13] (fun v iv wr => ∃ k : Nat, k ≤ E.length ∧ iv = .int .i64 k ∧ Lst exS 2 41 wr (w.heap.size + 1) v (takenE L (E.take k)) ∧ Mrk wr w.heap.size (E.take k) (mkV L) ∧ Below w.heap.size w wr) (fun _ iv _ => E.length - (intOf iv).toNat)
  case atStart => exact ⟨0, Nat.zero_le _, rfl, Lst.nil _ _, Mrk.made w _, (Below.refl _ _).alloc (Nat.le_refl _) _⟩
  case round =>
    obtain ⟨k, hk, rfl, hown, hmrk, hbel⟩ := hrel
    obtain ⟨va, vm, vc, rfl⟩ := hown.shape
    by_cases hlt : k < E.length
    · have hne : E ≠ [] := by intro e; rw [e] at hlt; simp at hlt
      obtain ⟨b1, o1, rfl, hc1⟩ := ((unhide HE).below hbel).2.2.2 hne
      obtain ⟨e, he⟩ : ∃ e, E[k]? = some e := ⟨E[k], List.getElem?_eq_getElem hlt⟩
      obtain ⟨q0, q1, q2, q3⟩ := Sls.ent (cap := 0) hc1 he
      obtain ⟨j, hj, htj, hej, htk⟩ := unhide HAT k e he
      have hin : InI (exOf e) := by rw [hej]; exact exOf_in (unhide HBY) (by omega) (by omega) (by omega)
      have hwv : whatL L e (takenE L (E.take k)) = mkV L e.1 := by
        rw [htk, hej]
        exact what_mkV (unhide HBY) (unhide HQ) hj htj
      have he1 : -9223372036854775808 ≤ e.1 ∧ e.1 ≤ 9223372036854775807 := by rw [hej]; show _ ≤ (j : Int) + 1 ∧ (j : Int) + 1 ≤ _; omega
      have htake : E.take (k + 1) = E.take k ++ [e] := by rw [List.take_add_one, he]; rfl
      have hone := what_one (L := L) (e := e) (T := takenE L (E.take k))
      have hmi := mkV_in L e.1
      have HY := hide (fun h => takenE_yes (L := L) (E := E.take k) (e := e) h)
      have HNO := hide (fun h => takenE_no (L := L) (E := E.take k) (e := e) h)
      have HTA := hide htake
      have htl : (takenE L (E.take k)).length ≤ 40 := Nat.le_trans (takenE_len _ _) (by rw [List.length_take]; have := unhide HEL; omega)
      have hekl : (E.take k).length ≤ 300 := by rw [List.length_take]; have := unhide HEL; omega
      have hb1 : Below w.heap.size w (wr.alloc (.cells #[.int .i64 e.1, .int .i64 e.2.1, .int .i64 e.2.2.1, .int .i64 e.2.2.2] 43)) := hbel.alloc hbel.size _
      have hbA : Below wr.heap.size wr (wr.alloc (.cells #[.int .i64 e.1, .int .i64 e.2.1, .int .i64 e.2.2.1, .int .i64 e.2.2.2] 43)) := (Below.refl _ _).alloc (Nat.le_refl _) _
      have hen := EnB.new wr e
      have hown1 := hown.below hbA
      have hold := hown.old
      have hmrk1 := hmrk.below hbA
      have hml := hmrk.lt
      have HW := hide (whatOf_any L e (w.heap.size + 1) _ _ _ (by omega) hin hown1 (by omega))
      rw [hwv] at HW hone
      unfold entV at HW
      have HB1 := hide hb1
      have HEN := hide hen
      have HO1 := hide hown1
      have HM1 := hide hmrk1
      clear hown hmrk hbel hc1 hne hwv hej htk htj hj htake hb1 hbA hen hown1 hmrk1
      have HMV : Hid (∀ (W : World), Mrk W w.heap.size (E.take k) (mkV L) → ∃ w', (Instr.mapUpdate 59 (.map (some w.heap.size)) (.int .i64 e.1) (.int .i64 (mkV L e.1))).run Tryz.prog W = .ok () w' ∧ Mrk w' w.heap.size (E.take (k + 1)) (mkV L) ∧ W.mapTurned w' w.heap.size) := hide (fun W hM => by
        rw [unhide HTA]
        exact hM.store hekl e he1 hmi)
      generalize mkV L e.1 = c at *
      obtain ⟨x, a, l, t⟩ := e
      dsimp only at *
      clear he
      by_cases hc : c = 1
      · subst hc
        have HT2 : Hid (takenE L (E.take (k + 1)) = takenE L (E.take k)) := hide (by rw [unhide HTA]; exact unhide HNO (hone.1 rfl))
        clear hone HY HNO hin hold
        go_wp2_with fail
        refine (unhide HW).mono ?_
        rintro e' w1 ⟨rfl, hb1⟩
        obtain ⟨w2, hst, hm2, htn⟩ := unhide HMV w1 ((unhide HM1).below hb1)
        have hen1 := (unhide HEN).below hb1 (by simp)
        obtain ⟨c0, c1, c2, c3⟩ := hen1.cells
        have hB1 := (unhide HB1).trans (hb1.mono (unhide HB1).size)
        have HB2 := hide (hB1.grown htn.grown hB1.size (fun j hj => by cases hj; exact Nat.le_refl _))
        have HO2 := hide (((unhide HO1).below hb1).turned htn (Nat.lt_succ_self _))
        have HM2 := hide hm2
        dsimp only at c0 c1 c2 c3
        clear hb1 hen1 hB1 hm2 htn HB1 HM1 HO1 HW HMV HEN
        go_wp2
        go_roundw
        case rel => exact ⟨k + 1, by omega, by go_num, by rw [unhide HT2]; exact unhide HO2, unhide HM2, unhide HB2⟩
        case measure => simp [intOf]; omega
      · have hp0 : putE L (x, a, l, t) = 0 := Classical.byContradiction fun h => hc (hone.2 h)
        have HT2 : Hid (takenE L (E.take (k + 1)) = takenE L (E.take k) ++ [mkEx (a, l)]) := hide (by rw [unhide HTA]; exact unhide HY hp0)
        have hval : exS (mkEx (a, l)) = [.int .i64 a, .int .i64 l] := by unfold exS exC; rw [mkEx_val (show InI (a, l) from hin)]
        have hc' : (c != 1) = true := bne_iff_ne.2 hc
        clear hone HY HNO hin hp0
        go_wp2_with fail
        refine (unhide HW).mono ?_
        rintro e' w1 ⟨rfl, hb1⟩
        have hen1 := (unhide HEN).below hb1 (by simp)
        obtain ⟨c0, c1, c2, c3⟩ := hen1.cells
        have hB1 := (unhide HB1).trans (hb1.mono (unhide HB1).size)
        have hbA : Below w1.heap.size w1 (w1.alloc (.cells #[.int .i64 a, .int .i64 l] 41)) := (Below.refl _ _).alloc (Nat.le_refl _) _
        have HO2 := hide (((unhide HO1).below hb1).below hbA)
        have HM2 := hide (((unhide HM1).below hb1).below hbA)
        have HEN2 := hide (hen1.below hbA hen1.lt)
        have HB2 := hide (hB1.trans (hbA.mono hB1.size))
        have HGN : Hid ((w1.alloc (.cells #[.int .i64 a, .int .i64 l] 41)).heap[w1.heap.size]? = some (.cells (exS (mkEx (a, l))).toArray 41 (0, 0))) := hide (by rw [hval]; exact heap_alloc_new w1 _)
        have hs1 : w.heap.size + 1 ≤ w1.heap.size := by have := hb1.size; simp at this; omega
        dsimp only at c0 c1 c2 c3
        clear hb1 hen1 hB1 HB1 HM1 HO1 HW HEN hbA hval
        go_wp2_with (at_builtin; refine wpList_append_lst2 rfl _ _ 78 rfl (w.heap.size + 1) i0 (.agg #[.int .i64 0, .int .i64 0]) 16 Tryz.underlying78 hi0 hz0 hz1 hz2 rfl (by decide) (by decide) _ _ rfl (unhide HO2) w1.heap.size (mkEx (a, l)) rfl (unhide HGN) rfl (exS_one _) (by omega) (by simp; omega) ?_)
        intro v9 w9 hown9 hbel9 hkeep
        obtain ⟨w10, hst, hm10, htn⟩ := unhide HMV w9 ((unhide HM2).same (hbel9.block _ (Nat.lt_succ_self _)))
        have hen9 : EnB w9 wr.heap.size (x, a, l, t) := (hkeep _ (by have := (unhide HEN2).lt; rw [sz_alloc] at this; exact this) (fun e => by have := hold _ e; omega)).trans (unhide HEN2)
        obtain ⟨d0, d1, d2, d3⟩ := hen9.cells
        dsimp only at d0 d1 d2 d3
        have hB9 := (unhide HB2).trans (hbel9.mono (Nat.le_succ _))
        have HB10 := hide (hB9.grown htn.grown hB9.size (fun j hj => by cases hj; exact Nat.le_refl _))
        have HO10 := hide (hown9.turned htn (Nat.lt_succ_self _))
        have HM10 := hide hm10
        obtain ⟨a9, m9, c9, rfl⟩ := hown9.shape
        clear hown9 hbel9 hkeep hen9 hB9 hm10 htn HB2 HM2 HO2 HMV HEN2 HGN hold c0 c1 c2 c3
        go_wp2
        go_roundw
        case rel => exact ⟨k + 1, by omega, by go_num, by rw [unhide HT2]; exact unhide HO10, unhide HM10, unhide HB10⟩
        case measure => simp [intOf]; omega
    · obtain rfl : k = E.length := by omega
      rw [List.take_length] at hmrk
      have HM := hide hmrk
      have HBEL := hide hbel
      clear hown hmrk hbel
      go_wp2
      go_ret
      exact ⟨rfl, unhide HM, unhide HBEL⟩
end Go.Proofs.YtccailoccgbehaaGreatDoor
