/-
  Joined by program: Ends; OwnV; Own; NumA; NumGet; NumPut; NumList; StampA; StampO; StampList; PagesPlain; PagesMark; PagesAll; PagesOpen; PagesLaw; PgPlain. (Parts of the proofs over the packages of the program.)
-/
import Derived.Test.YtjipnjmnkfjmhaaGreatDoorJDev
import Derived.Maps.AppendAt
import Derived.Test.YtjipnjmnkfjmhaaGreatDoorProg
import Derived.WalkKit
import Derived.BigQuiet
import Derived.WalkLawsBesides
import Derived.OwnWalk
import Derived.Deep.RegionLaw
import Derived.Laws.Strings
/-! How a call that answers bytes and something ends; 'copy' into a part of a row. (Part of the proofs over packages num and stamp.) -/
namespace Go.Proofs.YtjipnjmnkfjmhaaGreatDoor
open Go.RowKit
set_option linter.unusedVariables false

theorem bs_nil (w : World) : Bs w none 0 [] := ⟨fun z hz => (by cases hz), Nat.le_refl _, by decide, fun _ => rfl, fun h => absurd rfl h⟩

/-- How a call that answers bytes and something ends. -/
def Ends (w : World) (L : List Int) (x : Value) (e : Ending) (w' : World) : Prop :=
  ∃ a cap, e = .returned (.tuple #[.slice a L.length cap, x]) ∧ Bs w' a cap L ∧ Below w.heap.size w w'

theorem ends_nil {w : World} {x : Value} {e : Ending} {w' : World} (he : e = .returned (.tuple #[.slice none 0 0, x])) (hw : w = w') : Ends w [] x e w' :=
  ⟨none, 0, he, bs_nil _, by rw [hw]; exact Below.refl _ _⟩

/-- 'copy(out[off:..], b)': out a row of its own in which b has room. -/
theorem run_copy_at {P : Program} (w : World) (dT sT ty : TypeId) (hu : P.underlying dT = some (.slice 5)) (hsz : (P.info? 5).map (·.size) = some 1)
    (g off dLen dCap : Nat) (dp sp : Option Addr) (sCap : Nat) (z l : List Int) (hl : l.length ≤ dLen) (hd : l ≠ [] → dp = some ⟨g, off, none⟩) (hfit : off + l.length ≤ z.length) (hg : Blk w g z) (hb : Bs w sp sCap l) :
    (Builtin.copy_ #[dT, sT] ty #[.slice dp dLen dCap, .slice sp l.length sCap]).run P w = .ok (.int .i64 l.length) (rowW w g (splice z off l)) := by
  have hg' : w.heap[g]? = some (.cells (z.map (Value.int .u8)).toArray 5 (0, 0)) := hg
  by_cases h0 : l = []
  · subst h0
    have hrun := run_copy_none (P := P) w dT sT ty 5 dp sp dLen dCap 0 sCap hu hsz (by simp)
    have hself : rowW w g (splice z off []) = w := by
      have : splice z off [] = z := by simp [splice]
      rw [this]
      exact setRow_self w g _ 5 (0, 0) hg'
    rw [hself]
    simpa [goInt] using hrun
  · obtain rfl := hd h0
    obtain ⟨b, o2, rfl, hc⟩ := hb.2.2.2.2 h0
    have hrun := run_copy_row (P := P) w dT sT ty 5 g off dLen dCap ⟨b, o2, none⟩ l.length sCap _ 5 (l.map (Value.int .u8)) hu hsz hg' (by simp [Nat.min_eq_left hl]) ?_ (by simpa using hfit) (oneCell_u8 l)
    · simpa [goInt, rowW, splice, List.map_take, List.map_drop] using hrun
    · intro j v hj
      have hjl : j < l.length := by
        rcases Nat.lt_or_ge j l.length with h1 | h1
        · exact h1
        · rw [List.getElem?_eq_none (by simpa using h1)] at hj; cases hj
      have := hc j hjl
      simp [hjl] at hj
      subst hj
      rw [addr_add]
      simpa [List.getD, hjl] using this

theorem byt_splice {z l : List Int} {off : Nat} (hz : Byt z) (hl : Byt l) : Byt (splice z off l) := by
  intro c hc
  unfold splice at hc
  rcases List.mem_append.1 hc with h | h
  · exact hz c (List.mem_of_mem_take h)
  · rcases List.mem_append.1 h with h | h
    · exact hl c h
    · exact hz c (List.mem_of_mem_drop h)

/-- 'out[c:]' of a row of 32 bytes. -/
theorem cut_own {P : Program} {t : TypeId} (hu : P.underlying t = some (.slice 5)) (hsz : (P.info? 5).map (·.size) = some 1) (g c d : Nat) (h : c + d = 32) :
    ∃ dp, (∀ w', (Instr.slice t (.slice (some ⟨g, 0, none⟩) 32 32) (some (.int .i64 c)) none none).run P w' = .ok (.slice dp d d) w') ∧ (0 < d → dp = some ⟨g, c, none⟩) := by
  have he := elem_u8 hu
  refine ⟨if 32 = c then some ⟨g, 0, none⟩ else some ⟨g, c, none⟩, fun w' => ?_, fun hd => by rw [if_neg (by omega)]⟩
  rw [run_slice_l (P := P) (w := w') t (some ⟨g, 0, none⟩) 32 32 (by rw [he]; exact hu) .i64 c (by omega) (by omega), he, run_size_u8 w' hsz]
  have hd : d = 32 - c := by omega
  subst hd
  simp [Result.andThen, sliced, Addr.add]
  split <;> simp <;> omega

/-- 'copy' as one step of a region that draws its order, its run known. -/
theorem step_copy_run {P : Program} {ops : Array Oper} {o : Oper} {a : Act} {w : World} {K : Act → World → Prop} {Q : Exit → Act → World → Prop} {E : Prop} (hgd : o.guard = none) (d s : Operand) (dT sT : TypeId)
    (ho : o.op = .call { callee := .builtin .copy, args := #[d, s], argTypes := #[dT, sT] }) (v1 v2 : Value) (hd : a.eval d = v1) (hs : a.eval s = v2) (v : Value) (w' : World)
    (hrun : (Builtin.copy_ #[dT, sT] o.type #[v1, v2]).run P w = .ok v w') (h : K (a.put o.dst v) w') :
    if Region.wanted o (yielded ops a.tmps) = true then Oper.wp P o a w K Q else E := by
  have hw : Region.wanted o (yielded ops a.tmps) = true := by simp [Region.wanted, hgd]
  rw [if_pos hw]
  unfold Oper.wp
  simp [execOp, ho, resolve, invoke, builtin, hd, hs, hrun, Result.andThen]
  exact h
end Go.Proofs.YtjipnjmnkfjmhaaGreatDoor
/-! A value that owns a row of bytes, made by append. (Part of the proofs.) -/
namespace Go.Proofs.YtjipnjmnkfjmhaaGreatDoor
open Go.RowKit
set_option linter.unusedVariables false

/-- A value that owns a row of bytes (or is nil, of none). -/
def OwnV (w : World) (B : Nat) (v : Value) (L : List Int) : Prop := w.ownsRow B 5 1 v L.length (L.map (Value.int .u8))
theorem OwnV.nil (w : World) (B : Nat) : OwnV w B (.slice none 0 0) [] := ⟨by simp, .inl ⟨rfl, rfl⟩⟩
theorem OwnV.block {w : World} {B : Nat} {v : Value} {L : List Int} (h : OwnV w B v L) : ∀ k, v.ownBlock = some k → B ≤ k := by
  intro k hk
  rcases h.2 with ⟨rfl, _⟩ | ⟨g, cap, cur, rfl, hB, _⟩
  · cases hk
  · simp [Value.ownBlock] at hk
    omega
theorem OwnV.bs {w : World} {B : Nat} {v : Value} {L : List Int} (h : OwnV w B v L) (hb : Byt L) (hl : L.length ≤ 140737488351232) : ∃ a c, v = .slice a L.length c ∧ Bs w a c L := by
  rcases h.2 with ⟨rfl, h0⟩ | ⟨g, cap, cur, rfl, hB, hc, h3, h4, h5, h6⟩
  · have : L = [] := List.eq_nil_of_length_eq_zero h0
    subst this
    exact ⟨none, 0, rfl, bs_nil _⟩
  · refine ⟨some ⟨g, 0, none⟩, cap, rfl, hb, h3, hl, fun e => (by cases e), fun _ => ⟨g, 0, rfl, fun i hi => ?_⟩⟩
    rw [cell_of_row _ _ _ _ _ _ hc]
    have e : (cur.toList.take (L.length * 1))[i]? = some (.int .u8 (L.getD i 0)) := by
      rw [h6]
      simp [List.getD, hi]
    rw [List.getElem?_take, if_pos (by omega)] at e
    simpa using e
theorem news_bs {w : World} {ad : Addr} {c : Nat} {l : List Int} (hb : Bs w (some ad) c l) : ∀ j u, (l.map (Value.int .u8))[j]? = some u → w.cell? (ad.add j) = some u := by
  intro j u hj
  have hjl : j < l.length := by
    rcases Nat.lt_or_ge j l.length with h1 | h1
    · exact h1
    · rw [List.getElem?_eq_none (by simpa using h1)] at hj; cases hj
  obtain ⟨b, off, e, hc⟩ := hb.2.2.2.2 (by intro e; rw [e] at hjl; simp at hjl)
  obtain rfl := Option.some.inj e
  have h2 := hc j hjl
  simp [hjl] at hj
  subst hj
  rw [addr_add]
  simpa [List.getD, hjl] using h2
theorem OwnV.below {w w' : World} {B : Nat} {v : Value} {L : List Int} (h : OwnV w B v L) (hb : Below w.heap.size w w') : OwnV w' B v L := by
  refine ⟨h.1, ?_⟩
  rcases h.2 with h0 | ⟨g, cap, cur, rfl, hB, hc, h3⟩
  · exact .inl h0
  · exact .inr ⟨g, cap, cur, rfl, hB, (hb.block g (Array.getElem?_eq_some_iff.1 hc).1).trans hc, h3⟩

end Go.Proofs.YtjipnjmnkfjmhaaGreatDoor
/-! Byte slices that a call has made by append: what they own, read, stored. (Part of the proofs over package num.) -/
namespace Go.Proofs.YtjipnjmnkfjmhaaGreatDoor
open Go.RowKit
set_option linter.unusedVariables false

/-- The slice '.slice (some ⟨g, 0, none⟩) l.length cap' owns the bytes l, in a block from base on. -/
def Own (w : World) (base g cap : Nat) (l : List Int) : Prop := w.ownsRow base 5 1 (.slice (some ⟨g, 0, none⟩) l.length cap) l.length (l.map (Value.int .u8))

theorem Own.base {w : World} {base g cap : Nat} {l : List Int} (h : Own w base g cap l) : base ≤ g := by
  rcases h.2 with ⟨h', _⟩ | ⟨g', cap', cur, h', hb, _⟩
  · simp at h'
  · simp only [Value.slice.injEq, Option.some.injEq, Addr.mk.injEq, and_true, true_and] at h'
    obtain ⟨rfl, rfl⟩ := h'
    exact hb

theorem Own.cap {w : World} {base g cap : Nat} {l : List Int} (h : Own w base g cap l) : l.length ≤ cap := by
  rcases h.2 with ⟨h', _⟩ | ⟨g', cap', cur, h', hb, _, hn, _⟩
  · simp at h'
  · simp only [Value.slice.injEq, Option.some.injEq, Addr.mk.injEq, and_true, true_and] at h'
    obtain ⟨rfl, rfl⟩ := h'
    exact hn

theorem Own.cell {w : World} {base g cap : Nat} {l : List Int} (h : Own w base g cap l) (i : Nat) (hi : i < l.length) : w.cell? ⟨g, i, none⟩ = some (.int .u8 (l.getD i 0)) := by
  rw [World.ownsRow.cellAt h i (by omega)]
  simp [hi, List.getD]

theorem Own.frozen {w : World} {base g cap : Nat} {l : List Int} (h : Own w base g cap l) (i : Nat) : w.frozen? ⟨g, i, none⟩ = false := World.ownsRow.frozenAt h i

theorem Own.set {w : World} {base g cap : Nat} {l : List Int} (h : Own w base g cap l) (i : Nat) (c : Int) : Own (w.setCell ⟨g, i, none⟩ (.int .u8 c)) base g cap (l.set i c) := by
  have := (World.ownsRow.stored h i (.int .u8 c)).1
  unfold Own
  rw [List.length_set, List.map_set]
  exact this

theorem Own.bs {w : World} {base g cap : Nat} {l : List Int} (h : Own w base g cap l) (hb : Byt l) (hl : l.length ≤ 140737488351232) : Bs w (some ⟨g, 0, none⟩) cap l :=
  ⟨hb, h.cap, hl, fun e => (by cases e), fun _ => ⟨g, 0, rfl, fun i hi => by rw [Nat.zero_add]; exact h.cell i hi⟩⟩

/-- 'append(nil, b...)', b not empty. -/
theorem wpList_append_new {P : Program} {w : World} {ops : Array Oper} {rest : List Oper} {o : Oper} {a : Act} {Q : Exit → Act → World → Prop} (hgd : o.guard = none) (s x : Operand) (t : TypeId)
    (ho : o.op = .call { callee := .builtin .append, args := #[s, x], argTypes := #[t, t] }) (i : TypeInfo) (ht : P.underlying t = some (.slice 5)) (hi : P.info? 5 = some i) (hz : i.zero = some (.int .u8 0)) (h4 : i.size = 1) (h5 : i.bytes = 1)
    (sp : Option Addr) (sCap : Nat) (l : List Int) (hs : a.eval s = .slice none 0 0) (hx : a.eval x = .slice sp l.length sCap) (hb : Bs w sp sCap l) (hne : l ≠ [])
    (h : ∀ g cap w', Own w' w.heap.size g cap l → Below w.heap.size w w' → wpList P ops Q rest (a.put o.dst (.slice (some ⟨g, 0, none⟩) l.length cap)) w') :
    wpList P ops Q (o :: rest) a w := by
  obtain ⟨b, off, rfl, hc⟩ := hb.2.2.2.2 hne
  have hl := hb.2.2.1
  refine wpList_append_own (P := P) w hgd s x t ho w.heap.size 5 i (.int .u8 0) 1 1 ht hi hz h4 h5 rfl (by decide) (.slice none 0 0) 0 [] hs (World.ownsRow_nil _ _ _ _) ⟨b, off, none⟩ l.length sCap (l.map (Value.int .u8)) hx (by simp) ?_ (oneCell_u8 l) (by unfold maxLen; omega) (by omega) (Nat.le_refl _) ?_
  · intro j v hj
    have hjl : j < l.length := by
      rcases Nat.lt_or_ge j l.length with h1 | h1
      · exact h1
      · rw [List.getElem?_eq_none (by simpa using h1)] at hj; cases hj
    have h2 := hc j hjl
    simp [hjl] at hj
    subst hj
    rw [addr_add]
    simpa [List.getD, hjl] using h2
  · intro v' w' hown hgrow hiff
    rw [Nat.zero_add, List.nil_append] at hown
    have hpos : 0 < l.length := by
      cases l with
      | nil => exact absurd rfl hne
      | cons _ _ => simp
    rcases hown.2 with ⟨_, h0⟩ | ⟨g, cap, cur, rfl, hrest⟩
    · omega
    · exact h g cap w' hown ((Below.refl _ _).grown hgrow (Nat.le_refl _) (fun k hk => by cases hk))
end Go.Proofs.YtjipnjmnkfjmhaaGreatDoor
/-! Contracts of package num's small functions: isSize, greatest, reaches, isLetter. (Part of the proofs of NumBack, NumLow, NumTells.) -/
namespace Go.Proofs.YtjipnjmnkfjmhaaGreatDoor
open Go.RowKit
set_option linter.unusedVariables false

theorem isSize_yes (s : Int) (w : World) (h1 : 1 ≤ s) (h2 : s ≤ 4) :
    Calls Tryz.prog 73 #[.int .i64 s] w fun e w' => e = .returned (.bool true) ∧ w = w' := by
  go_enter Tryz.func73, Tryz.ntmps73
  go_wp2
  go_ret
  exact ⟨rfl, rfl⟩

theorem isSize_no (s : Int) (w : World) (h : ¬ (1 ≤ s ∧ s ≤ 4)) :
    Calls Tryz.prog 73 #[.int .i64 s] w fun e w' => e = .returned (.bool false) ∧ w = w' := by
  by_cases h1 : 1 ≤ s
  · have h2 : ¬ s ≤ 4 := by omega
    go_enter Tryz.func73, Tryz.ntmps73
    go_wp2
    go_ret
    exact ⟨rfl, rfl⟩
  · clear h
    go_enter Tryz.func73, Tryz.ntmps73
    go_wp2
    go_ret
    exact ⟨rfl, rfl⟩

def most (s : Int) : Int := if s = 1 then 255 else if s = 2 then 65535 else if s = 3 then 16777215 else 4294967295

theorem greatest_any (s : Int) (w : World) (h1 : 1 ≤ s) (h2 : s ≤ 4) :
    Calls Tryz.prog 74 #[.int .i64 s] w fun e w' => e = .returned (.int .i64 (most s)) ∧ w = w' := by
  rcases (show s = 1 ∨ s = 2 ∨ s = 3 ∨ s = 4 from by omega) with rfl | rfl | rfl | rfl
  all_goals
    go_enter Tryz.func74, Tryz.ntmps74
    go_wp2
    go_ret
    exact ⟨rfl, rfl⟩

theorem reaches_yes (a : Option Addr) (len cap : Nat) (at' s : Int) (w : World) (hl : len ≤ 140737488355328) (h1 : 1 ≤ s) (h2 : s ≤ 4) (h3 : 0 ≤ at') (h4 : at' ≤ len - s) :
    Calls Tryz.prog 75 #[.slice a len cap, .int .i64 at', .int .i64 s] w fun e w' => e = .returned (.bool true) ∧ w = w' := by
  go_enter Tryz.func75, Tryz.ntmps75
  go_wp2
  go_ret
  exact ⟨rfl, rfl⟩

theorem reaches_no (a : Option Addr) (len cap : Nat) (at' s : Int) (w : World) (hl : len ≤ 140737488355328) (h1 : 1 ≤ s) (h2 : s ≤ 4) (h : ¬ (0 ≤ at' ∧ at' ≤ len - s)) :
    Calls Tryz.prog 75 #[.slice a len cap, .int .i64 at', .int .i64 s] w fun e w' => e = .returned (.bool false) ∧ w = w' := by
  by_cases h3 : 0 ≤ at'
  · have h4 : ¬ at' ≤ len - s := by omega
    clear h
    go_enter Tryz.func75, Tryz.ntmps75
    go_wp2
    go_ret
    exact ⟨rfl, rfl⟩
  · clear h
    go_enter Tryz.func75, Tryz.ntmps75
    go_wp2
    go_ret
    exact ⟨rfl, rfl⟩
end Go.Proofs.YtjipnjmnkfjmhaaGreatDoor
/-! The contract of num.Get. (Part of the proofs of NumBack, NumLow, NumTells.) -/
namespace Go.Proofs.YtjipnjmnkfjmhaaGreatDoor
open Go.RowKit
set_option linter.unusedVariables false

theorem get_size (a : Option Addr) (len cap : Nat) (p s : Int) (w : World) (h : ¬ (1 ≤ s ∧ s ≤ 4)) :
    Calls Tryz.prog 90 #[.slice a len cap, .int .i64 p, .int .i64 s] w fun e w' => e = .returned (.tuple #[.int .i64 0, .iface 44 (.int .i64 1)]) ∧ w = w' := by
  go_enter Tryz.func90, Tryz.ntmps90
  go_wp2_with (go_at_call 73; refine (isSize_no _ _ h).mono ?_; rintro e w' ⟨rfl, rfl⟩)
  go_ret2
  exact ⟨rfl, rfl⟩

theorem get_shape (a : Option Addr) (len cap : Nat) (p s : Int) (w : World) (hl : len ≤ 140737488355328) (h1 : 1 ≤ s) (h2 : s ≤ 4) (h : ¬ (0 ≤ p ∧ p ≤ len - s)) :
    Calls Tryz.prog 90 #[.slice a len cap, .int .i64 p, .int .i64 s] w fun e w' => e = .returned (.tuple #[.int .i64 0, .iface 44 (.int .i64 3)]) ∧ w = w' := by
  go_enter Tryz.func90, Tryz.ntmps90
  go_wp2_with (first | (go_at_call 73; refine (isSize_yes _ _ h1 h2).mono ?_; rintro e w' ⟨rfl, rfl⟩) | (go_at_call 75; refine (reaches_no _ _ _ _ _ _ hl h1 h2 h).mono ?_; rintro e w' ⟨rfl, rfl⟩))
  go_ret2
  exact ⟨rfl, rfl⟩

set_option maxHeartbeats 800000 in
theorem get_nat (b off cap : Nat) (l : List Int) (p s : Nat) (w : World) (hb : Byt l) (hc : l.length ≤ cap) (hm : l.length ≤ 140737488351232) (h1 : 1 ≤ s) (h2 : s ≤ 4) (h : p + s ≤ l.length)
    (hcell : ∀ i, i < l.length → w.cell? ⟨b, off + i, none⟩ = some (.int .u8 (l.getD i 0))) :
    Calls Tryz.prog 90 #[.slice (some ⟨b, off, none⟩) l.length cap, .int .i64 p, .int .i64 s] w fun e w' => e = .returned (.tuple #[.int .i64 (getV l p s), .nilIface]) ∧ w = w' := by
  go_enter Tryz.func90, Tryz.ntmps90
  go_wp2_with (first | (go_at_call 73; refine (isSize_yes _ _ (by omega) (by omega)).mono ?_; rintro e w' ⟨rfl, rfl⟩) | (go_at_call 75; refine (reaches_yes _ _ _ _ _ _ (by omega) (by omega) (by omega) (by omega) (by omega)).mono ?_; rintro e w' ⟨rfl, rfl⟩))
  go_loop [8, 21] (fun n i => ∃ k : Nat, k ≤ s ∧ i = .int .i64 k ∧ n = .int .i64 (getV l p k)) (fun _ i => s - (intOf i).toNat)
  case atStart => exact ⟨0, by omega, rfl, by simp [getV, numOf]⟩
  case round =>
    obtain ⟨k, hk, rfl, rfl⟩ := hrel
    have hbd := getV_bd l hb p k (by omega)
    by_cases hlt : k < s
    · have hx : w.cell? ⟨b, off + (p + k), none⟩ = some (.int .u8 (l.getD (p + k) 0)) := hcell (p + k) (by omega)
      have hy := hb.getD (p + k)
      have HS : Hid (getV l p (k + 1) = bits .or .i64 (getV l p k) (wrap64 (l.getD (p + k) 0 * 2 ^ (8 * k)))) := by
        rw [getV_succ l p k (by omega), or_step _ _ k (by omega) hbd hy]; exact rfl
      generalize l.getD (p + k) 0 = c at *
      generalize hn : getV l p k = n at *
      clear hn
      go_wp2
      go_round
      case rel => exact ⟨k + 1, by omega, by go_num, by rw [HS.out]⟩
      case measure => simp [intOf]; omega
    · obtain rfl : k = s := by omega
      go_wp2
      go_ret2
      exact ⟨rfl, rfl⟩

theorem get_yes (a : Option Addr) (cap : Nat) (l : List Int) (p s : Int) (w : World) (hb : Bs w a cap l) (h1 : 1 ≤ s) (h2 : s ≤ 4) (h3 : 0 ≤ p) (h4 : p ≤ l.length - s) :
    Calls Tryz.prog 90 #[.slice a l.length cap, .int .i64 p, .int .i64 s] w fun e w' => e = .returned (.tuple #[.int .i64 (getV l p.toNat s.toNat), .nilIface]) ∧ w = w' := by
  obtain ⟨b1, b2, b3, b4, b5⟩ := hb
  obtain ⟨b, off, rfl, hc⟩ := b5 (by intro h; subst h; simp at h4; omega)
  obtain ⟨P, rfl⟩ := Int.eq_ofNat_of_zero_le h3
  obtain ⟨S, rfl⟩ := Int.eq_ofNat_of_zero_le (by omega : 0 ≤ s)
  rw [Int.toNat_natCast, Int.toNat_natCast]
  exact get_nat b off cap l P S w b1 b2 b3 (by omega) (by omega) (by omega) hc
end Go.Proofs.YtjipnjmnkfjmhaaGreatDoor
/-! The contract of num.Put. (Part of the proofs of NumBack, NumLow, NumTells.) -/
namespace Go.Proofs.YtjipnjmnkfjmhaaGreatDoor
open Go.RowKit
set_option linter.unusedVariables false


theorem put_size (a : Option Addr) (len cap : Nat) (p n s : Int) (w : World) (h : ¬ (1 ≤ s ∧ s ≤ 4)) :
    Calls Tryz.prog 55 #[.slice a len cap, .int .i64 p, .int .i64 n, .int .i64 s] w fun e w' => e = .returned (.tuple #[.slice none 0 0, .iface 44 (.int .i64 1)]) ∧ w = w' := by
  go_enter Tryz.func55, Tryz.ntmps55
  go_wp2_with (go_at_call 73; refine (isSize_no _ _ h).mono ?_; rintro e w' ⟨rfl, rfl⟩)
  go_ret2
  exact ⟨rfl, rfl⟩

theorem put_neg (a : Option Addr) (len cap : Nat) (p n s : Int) (w : World) (h1 : 1 ≤ s) (h2 : s ≤ 4) (h : n < 0) :
    Calls Tryz.prog 55 #[.slice a len cap, .int .i64 p, .int .i64 n, .int .i64 s] w fun e w' => e = .returned (.tuple #[.slice none 0 0, .iface 44 (.int .i64 1)]) ∧ w = w' := by
  go_enter Tryz.func55, Tryz.ntmps55
  go_wp2_with (go_at_call 73; refine (isSize_yes _ _ h1 h2).mono ?_; rintro e w' ⟨rfl, rfl⟩)
  go_ret2
  exact ⟨rfl, rfl⟩

theorem put_most (a : Option Addr) (len cap : Nat) (p n s : Int) (w : World) (h1 : 1 ≤ s) (h2 : s ≤ 4) (h3 : ¬ n < 0) (h : most s < n) :
    Calls Tryz.prog 55 #[.slice a len cap, .int .i64 p, .int .i64 n, .int .i64 s] w fun e w' => e = .returned (.tuple #[.slice none 0 0, .iface 44 (.int .i64 1)]) ∧ w = w' := by
  go_enter Tryz.func55, Tryz.ntmps55
  go_wp2_with (first | (go_at_call 73; refine (isSize_yes _ _ h1 h2).mono ?_; rintro e w' ⟨rfl, rfl⟩) | (go_at_call 74; refine (greatest_any _ _ h1 h2).mono ?_; rintro e w' ⟨rfl, rfl⟩))
  go_ret2
  exact ⟨rfl, rfl⟩

theorem put_shape (a : Option Addr) (len cap : Nat) (p n s : Int) (w : World) (hl : len ≤ 140737488355328) (h1 : 1 ≤ s) (h2 : s ≤ 4) (h3 : ¬ n < 0) (h4 : ¬ most s < n) (h : ¬ (0 ≤ p ∧ p ≤ len - s)) :
    Calls Tryz.prog 55 #[.slice a len cap, .int .i64 p, .int .i64 n, .int .i64 s] w fun e w' => e = .returned (.tuple #[.slice none 0 0, .iface 44 (.int .i64 3)]) ∧ w = w' := by
  go_enter Tryz.func55, Tryz.ntmps55
  go_wp2_with (first | (go_at_call 73; refine (isSize_yes _ _ h1 h2).mono ?_; rintro e w' ⟨rfl, rfl⟩) | (go_at_call 74; refine (greatest_any _ _ h1 h2).mono ?_; rintro e w' ⟨rfl, rfl⟩) | (go_at_call 75; refine (reaches_no _ _ _ _ _ _ hl h1 h2 h).mono ?_; rintro e w' ⟨rfl, rfl⟩))
  go_ret2
  exact ⟨rfl, rfl⟩

set_option maxRecDepth 100000 in
set_option maxHeartbeats 800000 in
theorem put_nat (a : Option Addr) (cap : Nat) (l : List Int) (p s : Nat) (n : Int) (w : World) (hbs : Bs w a cap l) (h1 : 1 ≤ s) (h2 : s ≤ 4) (h3 : 0 ≤ n) (h4 : ¬ most s < n) (h : p + s ≤ l.length) :
    Calls Tryz.prog 55 #[.slice a l.length cap, .int .i64 p, .int .i64 n, .int .i64 s] w fun e w' => ∃ g, e = .returned (.tuple #[.slice (some ⟨g, 0, none⟩) l.length l.length, .nilIface]) ∧ w.heap.size ≤ g ∧ Blk w' g (putK l p n s) ∧ Below w.heap.size w w' := by
  have hl : l.length ≤ 140737488351232 := hbs.2.2.1
  obtain ⟨i0, hi, hz0, hz1, hz2⟩ := info_parts info_u8
  have hcopy : ∀ w1, Blk w1 w.heap.size (zerosB l.length) → Bs w1 a cap l → Sem.run Tryz.prog (Builtin.copy_ #[36, 36] 3 #[.slice (some ⟨w.heap.size, 0, none⟩) l.length l.length, .slice a l.length cap]) w1 = .ok (.int .i64 l.length) (rowW w1 w.heap.size l) :=
    fun w1 h5 h6 => run_copy_u8 w1 _ _ _ Tryz.underlying36 size_u8 _ _ _ _ _ l (length_zerosB _) h5 h6
  go_enter Tryz.func55, Tryz.ntmps55
  go_wp2_with (first
    | (go_at_call 73; refine (isSize_yes _ _ (by omega) (by omega)).mono ?_; rintro e w' ⟨rfl, rfl⟩)
    | (go_at_call 74; refine (greatest_any _ _ (by omega) (by omega)).mono ?_; rintro e w' ⟨rfl, rfl⟩)
    | (go_at_call 75; refine (reaches_yes _ _ _ _ _ _ (by omega) (by omega) (by omega) (by omega) (by omega)).mono ?_; rintro e w' ⟨rfl, rfl⟩)
    | (at_make; refine wpList_make_u8 rfl _ _ 36 rfl i0 Tryz.underlying36 hi hz0 hz1 hz2 _ _ _ _ l.length rfl rfl rfl rfl (by omega) ?_; intro w1 hk1 hs1 hb1; have hbs1 := hbs.below hb1))
  go_loopw [39] (fun i wr => ∃ k : Nat, k ≤ s ∧ i = .int .i64 k ∧ Blk wr w.heap.size (putK l p n k) ∧ Below w.heap.size w wr) (fun i _ => s - (intOf i).toNat)
  case atStart => exact ⟨0, by omega, rfl, rowW_blk hk1 l, rowW_below l hb1 (Nat.le_refl _)⟩
  case round =>
    obtain ⟨k, hk, rfl, hblk, hbel⟩ := hrel
    by_cases hlt : k < s
    · have hfz := hblk.frozen (p + k)
      have hcl := hblk.cell (p + k) (by rw [length_putK]; omega)
      have HB : Hid (Blk wr w.heap.size (putK l p n k)) := hblk
      clear hblk
      go_wp2
      go_roundw
      case rel => exact ⟨k + 1, by omega, by go_num, by show Blk _ _ _; exact HB.out.set (p + k) _, hbel.setCell (Nat.le_refl _) _⟩
      case measure => simp [intOf]; omega
    · obtain rfl : k = s := by omega
      go_wp2
      go_ret2
      exact ⟨_, rfl, Nat.le_refl _, hblk, hbel⟩
end Go.Proofs.YtjipnjmnkfjmhaaGreatDoor
/-! Plain facts on numbers as bytes. (Part of the proofs over package num.) -/
namespace Go.Proofs.YtjipnjmnkfjmhaaGreatDoor
open Go.RowKit
set_option linter.unusedVariables false

theorem putK_in (l : List Int) (p : Nat) (n : Int) : ∀ k j, j < k → p + k ≤ l.length → (putK l p n k).getD (p + j) 0 = n / 2 ^ (8 * j) % 256 := by
  intro k
  induction k with
  | zero => intro j hj; omega
  | succ k ih =>
    intro j hj hk
    have hlen := length_putK l p n k
    by_cases h : j = k
    · subst h
      simp only [putK, List.getD]
      rw [List.getElem?_set_self (by omega)]
      rfl
    · have h1 := ih j (by omega) (by omega)
      rw [← h1]
      simp [putK, List.getD]
      rw [List.getElem?_set_ne (by omega)]

theorem putK_out (l : List Int) (p : Nat) (n : Int) : ∀ k j, (j < p ∨ p + k ≤ j) → (putK l p n k).getD j 0 = l.getD j 0 := by
  intro k
  induction k with
  | zero => intro j _; rfl
  | succ k ih =>
    intro j hj
    rw [← ih j (by omega)]
    simp [putK, List.getD]
    rw [List.getElem?_set_ne (by omega)]

theorem mod_step (n : Int) (h : 0 ≤ n) (k : Nat) : n % 256 ^ (k + 1) = n % 256 ^ k + n / 2 ^ (8 * k) % 256 * 256 ^ k := by
  obtain ⟨N, rfl⟩ := Int.eq_ofNat_of_zero_le h
  have h256 : (2 : Nat) ^ (8 * k) = 256 ^ k := by rw [Nat.pow_mul]
  have h1 := Nat.mod_mul (x := N) (a := 256 ^ k) (b := 256)
  have h2 : N % 256 ^ (k + 1) = N % 256 ^ k + N / 2 ^ (8 * k) % 256 * 256 ^ k := by
    rw [Nat.pow_succ, h1, h256, Nat.mul_comm (256 ^ k)]
  have h3 : ((N % 256 ^ (k + 1) : Nat) : Int) = ((N % 256 ^ k + N / 2 ^ (8 * k) % 256 * 256 ^ k : Nat) : Int) := congrArg Nat.cast h2
  rw [Int.natCast_emod, Int.natCast_pow, Int.natCast_add, Int.natCast_mul, Int.natCast_emod, Int.natCast_emod, Int.natCast_ediv, Int.natCast_pow, Int.natCast_pow] at h3
  exact h3

theorem getV_putK (l : List Int) (p : Nat) (n : Int) (s : Nat) (hn : 0 ≤ n) (h : p + s ≤ l.length) : ∀ k, k ≤ s → getV (putK l p n s) p k = n % 256 ^ k := by
  intro k
  induction k with
  | zero => intro _; simp [getV, numOf]
  | succ k ih =>
    intro hk
    rw [getV_succ _ p k (by rw [length_putK]; omega), ih (by omega), putK_in l p n s k (by omega) h, mod_step n hn k]

theorem most_lt (s : Nat) (n : Int) (h1 : 1 ≤ s) (h2 : s ≤ 4) (h : n ≤ most s) : n < 256 ^ s := by
  rcases (show s = 1 ∨ s = 2 ∨ s = 3 ∨ s = 4 from by omega) with rfl | rfl | rfl | rfl <;> simp [most] at h ⊢ <;> omega

theorem getV_putK_self (l : List Int) (p : Nat) (n : Int) (s : Nat) (h1 : 1 ≤ s) (h2 : s ≤ 4) (hn : 0 ≤ n) (hm : n ≤ most s) (h : p + s ≤ l.length) : getV (putK l p n s) p s = n := by
  rw [getV_putK l p n s hn h s (Nat.le_refl _)]
  exact Int.emod_eq_of_lt hn (most_lt s n h1 h2 hm)

theorem ext_getD {l m : List Int} (h : l.length = m.length) (h2 : ∀ i, i < l.length → l.getD i 0 = m.getD i 0) : l = m := by
  apply List.ext_getElem h
  intro i hi hm
  have := h2 i hi
  simpa [List.getD, hi, hm] using this

theorem putK_take (l : List Int) (p : Nat) (n : Int) (k : Nat) : (putK l p n k).take p = l.take p := by
  apply ext_getD (by simp [length_putK])
  intro i hi
  have hi' : i < p := by simp at hi; omega
  have := putK_out l p n k i (Or.inl hi')
  simpa [List.getD, hi'] using this

theorem putK_drop (l : List Int) (p : Nat) (n : Int) (k : Nat) : (putK l p n k).drop (p + k) = l.drop (p + k) := by
  apply ext_getD (by simp [length_putK])
  intro i hi
  have := putK_out l p n k (p + k + i) (Or.inr (by omega))
  simpa [List.getD] using this
end Go.Proofs.YtjipnjmnkfjmhaaGreatDoor
/-! Contracts of package stamp: Make, Open, Mix. (Part of the proofs of StampTells, StampWhole, StampRow.) -/
namespace Go.Proofs.YtjipnjmnkfjmhaaGreatDoor
open Go.RowKit
set_option linter.unusedVariables false

/-! ### Make -/
def side (n : Int) : List Int := putK (zerosB 4) 0 n 4
theorem length_side (n : Int) : (side n).length = 4 := by unfold side; rw [length_putK, length_zerosB]
theorem byt_side (n : Int) : Byt (side n) := byt_putK (byt_zerosB 4) 0 n 4
def secL (n : Int) (b : List Int) : List Int := splice (splice (splice (zerosB 32) 0 (side n)) 4 b) 28 (side n)
theorem length_secL (n : Int) (b : List Int) (h : b.length ≤ 24) : (secL n b).length = 32 := by
  have h1 : (splice (zerosB 32) 0 (side n)).length = 32 := by rw [length_splice _ _ _ (by rw [length_side, length_zerosB]; decide), length_zerosB]
  have h2 : (splice (splice (zerosB 32) 0 (side n)) 4 b).length = 32 := by rw [length_splice _ _ _ (by rw [h1]; omega), h1]
  unfold secL
  rw [length_splice _ _ _ (by rw [length_side, h2]; decide), h2]
theorem byt_secL (n : Int) (b : List Int) (hb : Byt b) : Byt (secL n b) := byt_splice (byt_splice (byt_splice (byt_zerosB 32) (byt_side n)) hb) (byt_side n)

theorem make_range (n : Int) (a : Option Addr) (len cap : Nat) (w : World) (h : n < 1 ∨ 4294967295 < n) :
    Calls Tryz.prog 35 #[.int .i64 n, .slice a len cap] w fun e w' => e = .returned (.tuple #[.slice none 0 0, errV 1]) ∧ w = w' := by
  by_cases h1 : n < 1
  · clear h
    go_enter Tryz.func35, Tryz.ntmps35
    go_wp2
    go_ret2
    exact ⟨rfl, rfl⟩
  · have h2 : 4294967295 < n := by omega
    clear h
    go_enter Tryz.func35, Tryz.ntmps35
    go_wp2
    go_ret2
    exact ⟨rfl, rfl⟩
theorem make_full (n : Int) (a : Option Addr) (len cap : Nat) (w : World) (h1 : ¬ n < 1) (h2 : ¬ 4294967295 < n) (h3 : 24 < len) :
    Calls Tryz.prog 35 #[.int .i64 n, .slice a len cap] w fun e w' => e = .returned (.tuple #[.slice none 0 0, errV 4]) ∧ w = w' := by
  go_enter Tryz.func35, Tryz.ntmps35
  go_wp2
  go_ret2
  exact ⟨rfl, rfl⟩

set_option maxRecDepth 100000 in
set_option maxHeartbeats 800000 in
theorem make_yes (n : Int) (a : Option Addr) (cap : Nat) (b : List Int) (w : World) (hb : Bs w a cap b) (h1 : ¬ n < 1) (h2 : ¬ 4294967295 < n) (h3 : b.length ≤ 24) :
    Calls Tryz.prog 35 #[.int .i64 n, .slice a b.length cap] w fun e w' => ∃ g, e = .returned (.tuple #[.slice (some ⟨g, 0, none⟩) 32 32, .nilIface]) ∧ w.heap.size ≤ g ∧ Blk w' g (secL n b) ∧ Below w.heap.size w w' := by
  obtain ⟨i0, hi0, hz0, hz1, hz2⟩ := info_parts info_u8
  have HB := hide hb
  clear hb
  go_enter Tryz.func35, Tryz.ntmps35
  go_wp2_with (at_make; refine wpList_make_u8 rfl _ _ 36 rfl i0 Tryz.underlying36 hi0 hz0 hz1 hz2 _ _ _ _ 4 rfl rfl rfl rfl (by omega) ?_)
  intro w1 hk1 hs1 hb1
  have hput := put_nat (some ⟨w.heap.size, 0, none⟩) 4 (zerosB 4) 0 4 n w1 (by have := hk1.bs (byt_zerosB 4) (by rw [length_zerosB]; decide); rwa [length_zerosB] at this) (by decide) (by decide) (by omega) (by show ¬ (4294967295 : Int) < n; omega) (by rw [length_zerosB]; decide)
  rw [length_zerosB, show ((0 : Nat) : Int) = 0 from rfl, show ((4 : Nat) : Int) = 4 from rfl] at hput
  have HP := hide hput
  have HBL := hide hb1
  clear hput hk1 hb1
  go_wp2_with fail
  refine (unhide HP).mono ?_
  rintro e w2 ⟨gs, rfl, hgs, hks, hb2⟩
  have hbel : Below w.heap.size w w2 := (unhide HBL).trans (hb2.mono (unhide HBL).size)
  have hBs : Bs w2 (some ⟨gs, 0, none⟩) 4 (side n) := by
    have := Blk.bs (l := side n) hks (byt_side n) (by rw [length_side]; decide)
    rwa [length_side] at this
  have HBS := hide hBs
  have HW2 := hide hbel
  clear hbel hBs hks hb2 HP HBL
  go_wp2_with (at_make; refine wpList_make_u8 rfl _ _ 36 rfl i0 Tryz.underlying36 hi0 hz0 hz1 hz2 _ _ _ _ 32 rfl rfl rfl rfl (by omega) ?_)
  intro w3 hk3 hs3 hb3
  have hw3 : Below w.heap.size w w3 := (unhide HW2).trans (hb3.mono (unhide HW2).size)
  have hg : w.heap.size ≤ w2.heap.size := (unhide HW2).size
  have q0 : Bs w3 (some ⟨gs, 0, none⟩) 4 (side n) := (unhide HBS).below hb3
  have gl : gs < w2.heap.size := by
    obtain ⟨b', o', e', hc⟩ := (unhide HBS).2.2.2.2 (by intro e; have := length_side n; rw [e] at this; cases this)
    have := block_lt_of_cell (hc 0 (by rw [length_side]; decide))
    simp at e'
    obtain ⟨rfl, rfl⟩ := e'
    exact this
  obtain ⟨X1, hX1⟩ : ∃ X1, X1 = splice (zerosB 32) 0 (side n) := ⟨_, rfl⟩
  obtain ⟨X2, hX2⟩ : ∃ X2, X2 = splice X1 4 b := ⟨_, rfl⟩
  obtain ⟨X3, hX3⟩ : ∃ X3, X3 = splice X2 28 (side n) := ⟨_, rfl⟩
  have l1 : X1.length = 32 := by rw [hX1, length_splice _ _ _ (by rw [length_side, length_zerosB]; decide), length_zerosB]
  have l2 : X2.length = 32 := by rw [hX2, length_splice _ _ _ (by rw [l1]; omega), l1]
  have k1 : Blk (rowW w3 w2.heap.size X1) w2.heap.size X1 := rowW_blk hk3 X1
  have k2 : Blk (rowW (rowW w3 w2.heap.size X1) w2.heap.size X2) w2.heap.size X2 := rowW_blk k1 X2
  have k3 : Blk (rowW (rowW (rowW w3 w2.heap.size X1) w2.heap.size X2) w2.heap.size X3) w2.heap.size X3 := rowW_blk k2 X3
  have b1 : Below w2.heap.size w2 (rowW w3 w2.heap.size X1) := rowW_below _ hb3 (Nat.le_refl _)
  have b2 : Below w2.heap.size w2 (rowW (rowW w3 w2.heap.size X1) w2.heap.size X2) := rowW_below _ b1 (Nat.le_refl _)
  have b3 : Below w2.heap.size w2 (rowW (rowW (rowW w3 w2.heap.size X1) w2.heap.size X2) w2.heap.size X3) := rowW_below _ b2 (Nat.le_refl _)
  obtain ⟨d4, e4, f4⟩ := cut_own (P := Tryz.prog) (t := 36) Tryz.underlying36 size_u8 w2.heap.size 4 28 rfl
  obtain ⟨d28, e28, f28⟩ := cut_own (P := Tryz.prog) (t := 36) Tryz.underlying36 size_u8 w2.heap.size 28 4 rfl
  have c1 := run_copy_at (P := Tryz.prog) w3 36 36 3 Tryz.underlying36 size_u8 w2.heap.size 0 32 32 (some ⟨w2.heap.size, 0, none⟩) _ 4 (zerosB 32) (side n) (by rw [length_side]; decide) (fun _ => rfl) (by rw [length_side, length_zerosB]; decide) hk3 q0
  have c2 := run_copy_at (P := Tryz.prog) (rowW w3 w2.heap.size X1) 36 36 3 Tryz.underlying36 size_u8 w2.heap.size 4 28 28 d4 a cap X1 b (by omega) (fun _ => f4 (by decide)) (by rw [l1]; omega) k1 ((unhide HB).below ((unhide HW2).trans (b1.mono hg)))
  have c3 := run_copy_at (P := Tryz.prog) (rowW (rowW w3 w2.heap.size X1) w2.heap.size X2) 36 36 3 Tryz.underlying36 size_u8 w2.heap.size 28 4 4 d28 _ 4 X2 (side n) (by rw [length_side]; decide) (fun _ => f28 (by decide)) (by rw [length_side, l2]; decide) k2 ((unhide HBS).below b2)
  rw [← hX1] at c1
  rw [← hX2] at c2
  rw [← hX3] at c3
  rw [length_side, show ((4 : Nat) : Int) = 4 from rfl] at c1 c3
  rw [show ((4 : Nat) : Int) = 4 from rfl] at e4
  rw [show ((28 : Nat) : Int) = 28 from rfl] at e28
  have hfin : X3 = secL n b := by rw [hX3, hX2, hX1]; rfl
  have HF := hide hfin
  have HK3 := hide k3
  have HB3 := hide ((unhide HW2).trans (b3.mono hg))
  have hgg := hg
  clear hfin k1 k2 k3 b1 b2 b3 l1 l2 hX1 hX2 hX3 q0 gl hb3 hk3 hw3 HW2 HBS f4 f28 hs3 hs1
  go_wp2
  go_ret2
  exact ⟨_, rfl, hgg, by rw [← unhide HF]; exact unhide HK3, unhide HB3⟩

/-- What Make answers: the sector, and the error's number. -/
def makeOut (n : Int) (b : List Int) : List Int × Int := if n < 1 ∨ 4294967295 < n then ([], 1) else if 24 < b.length then ([], 4) else (secL n b, 0)
theorem make_any (n : Int) (a : Option Addr) (cap : Nat) (b : List Int) (w : World) (hb : Bs w a cap b) :
    Calls Tryz.prog 35 #[.int .i64 n, .slice a b.length cap] w (Ends w (makeOut n b).1 (errV (makeOut n b).2)) := by
  unfold makeOut
  by_cases h : n < 1 ∨ 4294967295 < n
  · rw [if_pos h]
    exact (make_range n a b.length cap w h).mono fun e w' ⟨he, hw⟩ => ends_nil he hw
  · rw [if_neg h]
    by_cases h3 : 24 < b.length
    · rw [if_pos h3]
      exact (make_full n a b.length cap w (fun h1 => h (.inl h1)) (fun h1 => h (.inr h1)) h3).mono fun e w' ⟨he, hw⟩ => ends_nil he hw
    · rw [if_neg h3]
      refine (make_yes n a cap b w hb (fun h1 => h (.inl h1)) (fun h1 => h (.inr h1)) (by omega)).mono fun e w' ⟨g, he, _, hk, hbel⟩ => ⟨some ⟨g, 0, none⟩, 32, ?_, ?_, hbel⟩
      · rw [he, length_secL n b (by omega)]; rfl
      · have := Blk.bs hk (byt_secL n b hb.1) (by rw [length_secL n b (by omega)]; decide)
        rwa [length_secL n b (by omega)] at this
end Go.Proofs.YtjipnjmnkfjmhaaGreatDoor
/-! Contracts of package stamp: Open; two sectors mixed, as lists. (Part of the proofs of StampTells, StampWhole, StampRow.) -/
namespace Go.Proofs.YtjipnjmnkfjmhaaGreatDoor
open Go.RowKit
set_option linter.unusedVariables false

/-! ### Open -/
theorem open_shape (a : Option Addr) (len cap : Nat) (w : World) (h : len ≠ 32) :
    Calls Tryz.prog 69 #[.slice a len cap] w fun e w' => e = .returned (.tuple #[.int .i64 0, .slice none 0 0, errV 3]) ∧ w = w' := by
  have h' : ¬ (len : Int) = 32 := by omega
  clear h
  go_enter Tryz.func69, Tryz.ntmps69
  go_wp2
  go_ret3
  exact ⟨rfl, rfl⟩

set_option maxRecDepth 100000 in
set_option maxHeartbeats 800000 in
theorem open_none (a : Option Addr) (cap : Nat) (l : List Int) (w : World) (hb : Bs w a cap l) (hl : l.length = 32) (h1 : getV l 0 4 = 0) (h2 : getV l 28 4 = 0) :
    Calls Tryz.prog 69 #[.slice a l.length cap] w fun e w' => e = .returned (.tuple #[.int .i64 0, .slice none 0 0, errV 5]) ∧ w = w' := by
  have g1 := get_yes a cap l 0 4 w hb (by decide) (by decide) (by decide) (by omega)
  have g2 := get_yes a cap l 28 4 w hb (by decide) (by decide) (by decide) (by omega)
  rw [show (28 : Int).toNat = 28 from rfl, show (4 : Int).toNat = 4 from rfl, h2] at g2
  rw [show (0 : Int).toNat = 0 from rfl, show (4 : Int).toNat = 4 from rfl, h1] at g1
  rw [hl] at g1 g2 ⊢
  have G1 := hide g1
  have G2 := hide g2
  clear g1 g2 h1 h2 hl hb
  go_enter Tryz.func69, Tryz.ntmps69
  go_wp2_with fail
  refine (unhide G1).mono ?_
  rintro e w1 ⟨rfl, rfl⟩
  go_wp2_with fail
  refine (unhide G2).mono ?_
  rintro e w1 ⟨rfl, rfl⟩
  go_wp2
  go_ret3
  exact ⟨rfl, rfl⟩

set_option maxRecDepth 100000 in
set_option maxHeartbeats 800000 in
theorem open_state (a : Option Addr) (cap : Nat) (l : List Int) (w : World) (hb : Bs w a cap l) (hl : l.length = 32) (h : getV l 0 4 ≠ getV l 28 4) :
    Calls Tryz.prog 69 #[.slice a l.length cap] w fun e w' => e = .returned (.tuple #[.int .i64 0, .slice none 0 0, errV 6]) ∧ w = w' := by
  have g1 := get_yes a cap l 0 4 w hb (by decide) (by decide) (by decide) (by omega)
  have g2 := get_yes a cap l 28 4 w hb (by decide) (by decide) (by decide) (by omega)
  rw [show (28 : Int).toNat = 28 from rfl, show (4 : Int).toNat = 4 from rfl] at g2
  rw [show (0 : Int).toNat = 0 from rfl, show (4 : Int).toNat = 4 from rfl] at g1
  rw [hl] at g1 g2 ⊢
  have G1 := hide g1
  have G2 := hide g2
  generalize getV l 0 4 = x at *
  generalize getV l 28 4 = y at *
  clear g1 g2 hl hb
  by_cases h0 : x = 0
  · have h9 : ¬ y = 0 := fun e => h (by rw [h0, e])
    have h8 : ¬ (0 : Int) = y := fun e => h9 e.symm
    subst h0
    clear h
    go_enter Tryz.func69, Tryz.ntmps69
    go_wp2_with fail
    refine (unhide G1).mono ?_
    rintro e w1 ⟨rfl, rfl⟩
    go_wp2_with fail
    refine (unhide G2).mono ?_
    rintro e w1 ⟨rfl, rfl⟩
    go_wp2
    go_ret3
    exact ⟨rfl, rfl⟩
  · go_enter Tryz.func69, Tryz.ntmps69
    go_wp2_with fail
    refine (unhide G1).mono ?_
    rintro e w1 ⟨rfl, rfl⟩
    go_wp2_with fail
    refine (unhide G2).mono ?_
    rintro e w1 ⟨rfl, rfl⟩
    go_wp2
    go_ret3
    exact ⟨rfl, rfl⟩

set_option maxRecDepth 100000 in
set_option maxHeartbeats 800000 in
theorem open_yes (a : Option Addr) (cap : Nat) (l : List Int) (w : World) (hb : Bs w a cap l) (hl : l.length = 32) (h : getV l 0 4 = getV l 28 4) (h0 : ¬ getV l 0 4 = 0) :
    Calls Tryz.prog 69 #[.slice a l.length cap] w fun e w' => ∃ g, e = .returned (.tuple #[.int .i64 (getV l 0 4), .slice (some ⟨g, 0, none⟩) 24 24, .nilIface]) ∧ w.heap.size ≤ g ∧ Blk w' g ((l.drop 4).take 24) ∧ Below w.heap.size w w' := by
  obtain ⟨i0, hi0, hz0, hz1, hz2⟩ := info_parts info_u8
  have g1 := get_yes a cap l 0 4 w hb (by decide) (by decide) (by decide) (by omega)
  have g2 := get_yes a cap l 28 4 w hb (by decide) (by decide) (by decide) (by omega)
  rw [show (28 : Int).toNat = 28 from rfl, show (4 : Int).toNat = 4 from rfl, ← h] at g2
  rw [show (0 : Int).toNat = 0 from rfl, show (4 : Int).toNat = 4 from rfl] at g1
  obtain ⟨a4, hcut, hbs⟩ := slice_lohi (P := Tryz.prog) (t := 36) Tryz.underlying36 size_u8 hb 4 28 (by decide) (by omega)
  rw [hl] at g1 g2 hcut ⊢
  rw [show ((4 : Nat) : Int) = 4 from rfl, show ((28 : Nat) : Int) = 28 from rfl, show 28 - 4 = 24 from rfl] at hcut
  rw [show 28 - 4 = 24 from rfl] at hbs
  have hl2 : ((l.drop 4).take 24).length = 24 := by simp; omega
  generalize getV l 0 4 = x at *
  generalize (l.drop 4).take 24 = L at *
  have hcopy : ∀ w1, Blk w1 w.heap.size (zerosB 24) → Bs w1 a4 (cap - 4) L → Sem.run Tryz.prog (Builtin.copy_ #[36, 36] 3 #[.slice (some ⟨w.heap.size, 0, none⟩) 24 24, .slice a4 24 (cap - 4)]) w1 = .ok (.int .i64 24) (rowW w1 w.heap.size L) := fun w1 h5 h6 => by
    have := run_copy_u8 (P := Tryz.prog) w1 36 36 3 Tryz.underlying36 size_u8 w.heap.size 24 a4 (cap - 4) (zerosB 24) L (by rw [length_zerosB, hl2]) h5 h6
    rw [hl2] at this
    exact this
  have G1 := hide g1
  have G2 := hide g2
  have HBS := hide hbs
  clear g1 g2 hl hb h hbs hl2
  go_enter Tryz.func69, Tryz.ntmps69
  go_wp2_with fail
  refine (unhide G1).mono ?_
  rintro e w1 ⟨rfl, rfl⟩
  go_wp2_with fail
  refine (unhide G2).mono ?_
  rintro e w1 ⟨rfl, rfl⟩
  go_wp2_with (at_make; refine wpList_make_u8 rfl _ _ 36 rfl i0 Tryz.underlying36 hi0 hz0 hz1 hz2 _ _ _ _ 24 rfl rfl rfl rfl (by omega) ?_)
  intro w1 hk1 hs1 hb1
  have hc := hcopy w1 hk1 ((unhide HBS).below hb1)
  have HK := hide (rowW_blk hk1 L)
  have HBL := hide (rowW_below L hb1 (Nat.le_refl _))
  clear hcopy hk1 hb1 hs1 HBS
  go_wp2
  go_ret3
  exact ⟨_, rfl, Nat.le_refl _, unhide HK, unhide HBL⟩

/-- What Open answers: the stamp, the body, the error's number. -/
def openOut (l : List Int) : Int × List Int × Int :=
  if l.length ≠ 32 then (0, [], 3) else if getV l 0 4 ≠ getV l 28 4 then (0, [], 6) else if getV l 0 4 = 0 then (0, [], 5) else (getV l 0 4, (l.drop 4).take 24, 0)
/-- How a call that answers a number, bytes and something ends. -/
def EndsN (w : World) (n : Int) (L : List Int) (x : Value) (e : Ending) (w' : World) : Prop :=
  ∃ a cap, e = .returned (.tuple #[.int .i64 n, .slice a L.length cap, x]) ∧ Bs w' a cap L ∧ Below w.heap.size w w'
theorem endsN_nil {w : World} {n : Int} {x : Value} {e : Ending} {w' : World} (he : e = .returned (.tuple #[.int .i64 n, .slice none 0 0, x])) (hw : w = w') : EndsN w n [] x e w' :=
  ⟨none, 0, he, bs_nil _, by rw [hw]; exact Below.refl _ _⟩
theorem open_any (a : Option Addr) (cap : Nat) (l : List Int) (w : World) (hb : Bs w a cap l) :
    Calls Tryz.prog 69 #[.slice a l.length cap] w (EndsN w (openOut l).1 (openOut l).2.1 (errV (openOut l).2.2)) := by
  unfold openOut
  by_cases h : l.length ≠ 32
  · rw [if_pos h]
    exact (open_shape a l.length cap w h).mono fun e w' ⟨he, hw⟩ => endsN_nil he hw
  · rw [if_neg h]
    have hl : l.length = 32 := by omega
    by_cases h2 : getV l 0 4 ≠ getV l 28 4
    · rw [if_pos h2]
      exact (open_state a cap l w hb hl h2).mono fun e w' ⟨he, hw⟩ => endsN_nil he hw
    · rw [if_neg h2]
      have h3 : getV l 0 4 = getV l 28 4 := by omega
      by_cases h4 : getV l 0 4 = 0
      · rw [if_pos h4]
        exact (open_none a cap l w hb hl h4 (by omega)).mono fun e w' ⟨he, hw⟩ => endsN_nil he hw
      · rw [if_neg h4]
        have hl2 : ((l.drop 4).take 24).length = 24 := by simp; omega
        refine (open_yes a cap l w hb hl h3 h4).mono fun e w' ⟨g, he, _, hk, hbel⟩ => ⟨some ⟨g, 0, none⟩, 24, ?_, ?_, hbel⟩
        · rw [he, hl2]; rfl
        · have := Blk.bs hk (hb.1.sub 4 24) (by rw [hl2]; decide)
          rwa [hl2] at this

def mixL (l m : List Int) (c : Nat) : List Int := l.take c ++ m.drop c
theorem length_mixL (l m : List Int) (c : Nat) (hl : l.length = 32) (hm : m.length = 32) (hc : c ≤ 32) : (mixL l m c).length = 32 := by
  simp [mixL]; omega
theorem byt_mixL {l m : List Int} (hl : Byt l) (hm : Byt m) (c : Nat) : Byt (mixL l m c) := by
  intro z hz
  rcases List.mem_append.1 hz with h | h
  · exact hl z (List.mem_of_mem_take h)
  · exact hm z (List.mem_of_mem_drop h)
theorem mix_splice (l m : List Int) (c : Nat) (hl : l.length = 32) (hm : m.length = 32) (hc : c ≤ 32) : splice (splice (zerosB 32) 0 (l.take c)) c (m.drop c) = mixL l m c := by
  have h1 : (l.take c).length = c := by simp; omega
  have h2 : splice (zerosB 32) 0 (l.take c) = l.take c ++ (zerosB 32).drop c := by simp [splice, h1]
  rw [h2]
  unfold splice mixL
  have h3 : (m.drop c).length = 32 - c := by simp; omega
  rw [h3, List.take_append_of_le_length (by omega), List.take_of_length_le (by omega)]
  have h4 : (l.take c ++ (zerosB 32).drop c).drop (c + (32 - c)) = [] := List.drop_eq_nil_of_le (by simp [zerosB]; omega)
  rw [h4, List.append_nil]

end Go.Proofs.YtjipnjmnkfjmhaaGreatDoor
/-! Plain facts on sectors that Make made. (Part of the proofs of StampTells, StampWhole, StampRow.) -/
namespace Go.Proofs.YtjipnjmnkfjmhaaGreatDoor
open Go.RowKit
set_option linter.unusedVariables false

theorem zerosB_drop (n k : Nat) : (zerosB n).drop k = zerosB (n - k) := by simp [zerosB]
theorem zerosB_take (n k : Nat) (h : k ≤ n) : (zerosB n).take k = zerosB k := by simp [zerosB, Nat.min_eq_left h]

theorem secL_eq (n : Int) (b : List Int) (h : b.length ≤ 24) : secL n b = side n ++ ((b ++ zerosB (24 - b.length)) ++ side n) := by
  have hs := length_side n
  have e1 : splice (zerosB 32) 0 (side n) = side n ++ zerosB 28 := by
    unfold splice; rw [hs, zerosB_drop]; rfl
  have e2 : splice (side n ++ zerosB 28) 4 b = side n ++ (b ++ zerosB (28 - b.length)) := by
    unfold splice
    rw [List.take_append_of_le_length (by omega), List.take_of_length_le (by omega), List.drop_append, hs, List.drop_eq_nil_of_le (by omega), List.nil_append, zerosB_drop]
    congr 3
    omega
  have l3 : (side n ++ (b ++ zerosB (28 - b.length))).length = 32 := by simp [hs, zerosB]; omega
  unfold secL
  rw [e1, e2]
  unfold splice
  rw [List.drop_eq_nil_of_le (by rw [l3, hs]; decide), List.append_nil]
  have e3 : (side n ++ (b ++ zerosB (28 - b.length))).take 28 = side n ++ (b ++ zerosB (24 - b.length)) := by
    rw [List.take_append, hs, List.take_of_length_le (by omega), List.take_append, List.take_of_length_le (by omega), zerosB_take _ _ (by omega)]
  rw [e3, List.append_assoc]

theorem numOf_side (n : Int) (h1 : 1 ≤ n) (h2 : n ≤ 4294967295) : numOf (side n) = n := by
  have h := getV_putK_self (zerosB 4) 0 n 4 (by decide) (by decide) (by omega) (by show n ≤ 4294967295; exact h2) (by rw [length_zerosB]; decide)
  unfold getV at h
  rw [List.drop_zero, List.take_of_length_le (by rw [length_putK, length_zerosB]; decide)] at h
  exact h

theorem secL_front (n : Int) (b : List Int) (h : b.length ≤ 24) : (secL n b).take 4 = side n := by
  rw [secL_eq n b h, List.take_append_of_le_length (by rw [length_side]; decide), List.take_of_length_le (by rw [length_side]; decide)]
theorem secL_back (n : Int) (b : List Int) (h : b.length ≤ 24) : (secL n b).drop 28 = side n := by
  have hs := length_side n
  have l1 : (b ++ zerosB (24 - b.length)).length = 24 := by simp [zerosB]; omega
  rw [secL_eq n b h, List.drop_append, hs, List.drop_eq_nil_of_le (by omega), List.nil_append, List.drop_append, l1, List.drop_eq_nil_of_le (by omega), List.nil_append]
  rfl
theorem secL_body (n : Int) (b : List Int) (h : b.length ≤ 24) : ((secL n b).drop 4).take 24 = b ++ zerosB (24 - b.length) := by
  have hs := length_side n
  have l1 : (b ++ zerosB (24 - b.length)).length = 24 := by simp [zerosB]; omega
  rw [secL_eq n b h, List.drop_append, hs, List.drop_eq_nil_of_le (by omega), List.nil_append]
  show (List.take 24 ((b ++ zerosB (24 - b.length)) ++ side n)) = _
  rw [List.take_append_of_le_length (by omega), List.take_of_length_le (by omega)]
theorem getV_front (l : List Int) : getV l 0 4 = numOf (l.take 4) := by unfold getV; rw [List.drop_zero]
theorem getV_back (l : List Int) (h : l.length = 32) : getV l 28 4 = numOf (l.drop 28) := by
  unfold getV; rw [List.take_of_length_le (by simp; omega)]

theorem openOut_secL (n : Int) (b : List Int) (h1 : 1 ≤ n) (h2 : n ≤ 4294967295) (h : b.length ≤ 24) : openOut (secL n b) = (n, b ++ zerosB (24 - b.length), 0) := by
  have hl := length_secL n b h
  have e1 : getV (secL n b) 0 4 = n := by rw [getV_front, secL_front n b h, numOf_side n h1 h2]
  have e2 : getV (secL n b) 28 4 = n := by rw [getV_back _ hl, secL_back n b h, numOf_side n h1 h2]
  unfold openOut
  rw [if_neg (by omega), e1, e2, if_neg (by omega), if_neg (by omega), secL_body n b h]

theorem strOf_inj {l m : List Int} (hl : Byt l) (hm : Byt m) (h : strOf l = strOf m) : l = m := by
  rw [← strL_strOf l hl, ← strL_strOf m hm, h]
theorem toList_ne {a b : ByteArray} (h : ¬ a = b) : (a.toList == b.toList) = false := by
  have : ¬ a.toList = b.toList := fun e => h (by
    have e2 : a.data.toList = b.data.toList := by rw [← ByteArray.toList_eq, ← ByteArray.toList_eq, e]
    cases a; cases b
    exact congrArg ByteArray.mk (Array.toList_inj.1 e2))
  simpa using this
theorem secL_inj {n m : Int} {b : List Int} (h1 : 1 ≤ n) (h2 : n ≤ 4294967295) (k1 : 1 ≤ m) (k2 : m ≤ 4294967295) (h : b.length ≤ 24) (e : secL n b = secL m b) : n = m := by
  have := openOut_secL n b h1 h2 h
  rw [e, openOut_secL m b k1 k2 h] at this
  exact (congrArg Prod.fst this).symm

/-! ### A sector that is torn -/
theorem numOf_inj : ∀ {l m : List Int}, l.length = m.length → Byt l → Byt m → numOf l = numOf m → l = m
  | [], [], _, _, _, _ => rfl
  | x :: l, y :: m, hlen, hl, hm, h => by
    have h' : x + 256 * numOf l = y + 256 * numOf m := h
    have hx := hl x (List.mem_cons_self ..)
    have hy := hm y (List.mem_cons_self ..)
    have e1 : x = y := by omega
    have e2 : numOf l = numOf m := by omega
    rw [e1, numOf_inj (by simpa using hlen) (fun z hz => hl z (List.mem_cons_of_mem _ hz)) (fun z hz => hm z (List.mem_cons_of_mem _ hz)) e2]

theorem torn {X Y : List Int} (hx : X.length = 32) (hy : Y.length = 32) (fx : X.take 4 = X.drop 28) (fy : Y.take 4 = Y.drop 28) (hne : X.take 4 ≠ Y.take 4) {c : Nat} (hc : c ≤ 32)
    (hz : (mixL X Y c).take 4 = (mixL X Y c).drop 28) : mixL X Y c = X ∨ mixL X Y c = Y := by
  have lx : (X.take c).length = c := by simp; omega
  have zt : ∀ k, k ≤ c → (mixL X Y c).take k = X.take k := fun k hk => by
    unfold mixL
    rw [List.take_append_of_le_length (by omega), List.take_take, Nat.min_eq_left hk]
  have zd : ∀ k, c ≤ k → (mixL X Y c).drop k = Y.drop k := fun k hk => by
    unfold mixL
    rw [List.drop_append, lx, List.drop_eq_nil_of_le (by omega), List.nil_append, List.drop_drop]
    congr 1
    omega
  by_cases h : c ≤ 28
  · rw [zd 28 h, ← fy] at hz
    by_cases h4 : 4 ≤ c
    · rw [zt 4 h4] at hz
      exact absurd hz hne
    · right
      have h1 : (mixL X Y c).take c = Y.take c := by
        have := congrArg (List.take c) hz
        rwa [List.take_take, List.take_take, Nat.min_eq_left (by omega)] at this
      rw [← List.take_append_drop c (mixL X Y c), h1, zd c (Nat.le_refl _), List.take_append_drop]
  · left
    rw [zt 4 (by omega), fx] at hz
    have h1 : X.drop c = (mixL X Y c).drop c := by
      have := congrArg (List.drop (c - 28)) hz
      rwa [List.drop_drop, List.drop_drop, show 28 + (c - 28) = c by omega] at this
    rw [← List.take_append_drop c (mixL X Y c), zt c (Nat.le_refl _), ← h1, List.take_append_drop]

/-- TORN IS TOLD: what is opened is the one, or the other. -/
theorem torn_told {X Y : List Int} (hx : X.length = 32) (hy : Y.length = 32) (bx : Byt X) (by' : Byt Y) (fx : X.take 4 = X.drop 28) (fy : Y.take 4 = Y.drop 28) (hne : X.take 4 ≠ Y.take 4) {c : Nat} (hc : c ≤ 32)
    (ho : (openOut (mixL X Y c)).2.2 = 0) : mixL X Y c = X ∨ mixL X Y c = Y := by
  have hl := length_mixL X Y c hx hy hc
  have hb := byt_mixL bx by' c
  refine torn hx hy fx fy hne hc ?_
  have he : getV (mixL X Y c) 0 4 = getV (mixL X Y c) 28 4 := by
    unfold openOut at ho
    rw [if_neg (by omega)] at ho
    by_cases h2 : getV (mixL X Y c) 0 4 ≠ getV (mixL X Y c) 28 4
    · rw [if_pos h2] at ho; cases ho
    · omega
  rw [getV_front, getV_back _ hl] at he
  exact numOf_inj (by simp; omega) (fun z hz => hb z (List.mem_of_mem_take hz)) (fun z hz => hb z (List.mem_of_mem_drop hz)) he

theorem makeOut_cases (n : Int) (b : List Int) : (∃ e, e ≠ 0 ∧ makeOut n b = ([], e)) ∨ (makeOut n b = (secL n b, 0) ∧ 1 ≤ n ∧ n ≤ 4294967295 ∧ b.length ≤ 24) := by
  unfold makeOut
  by_cases hr : n < 1 ∨ 4294967295 < n
  · rw [if_pos hr]; exact .inl ⟨1, by decide, rfl⟩
  · rw [if_neg hr]
    by_cases h3 : 24 < b.length
    · rw [if_pos h3]; exact .inl ⟨4, by decide, rfl⟩
    · rw [if_neg h3]; exact .inr ⟨rfl, by omega, by omega, by omega⟩
theorem side_ne {n m : Int} (h1 : 1 ≤ n) (h2 : n ≤ 4294967295) (k1 : 1 ≤ m) (k2 : m ≤ 4294967295) (h : ¬ n = m) : side n ≠ side m := fun e => h (by rw [← numOf_side n h1 h2, ← numOf_side m k1 k2, e])
theorem side_ne_zero {n : Int} (h1 : 1 ≤ n) (h2 : n ≤ 4294967295) : side n ≠ (zerosB 32).take 4 := fun e => by
  have := numOf_side n h1 h2
  rw [e] at this
  have h0 : numOf ((zerosB 32).take 4) = 0 := rfl
  omega
end Go.Proofs.YtjipnjmnkfjmhaaGreatDoor
/-! Plain mathematics of pages over a device: steps that stop at the first error, what may stand there behind a crash. (Part of the proofs over package pages.) -/
namespace Go.Proofs.YtjipnjmnkfjmhaaGreatDoor
open Go.RowKit
set_option linter.unusedVariables false

/-! ### steps that stop at the first error -/
def andW (x : DS × Int) (i : Int) (b : List Int) : DS × Int := if x.2 = 0 then (x.1.write i b, x.1.writeE i b) else x
def andF (x : DS × Int) : DS × Int := if x.2 = 0 then (x.1.doFlush, x.1.flushE) else x
def wsF (x : DS × Int) (f : Nat → Int × List Int) : Nat → DS × Int
  | 0 => x
  | k + 1 => andW (wsF x f k) (f k).1 (f k).2

theorem step_secs (D : DS) : D.step.secs = D.secs := by
  unfold DS.step
  split
  · rfl
  · split <;> rfl
theorem step_mem (D : DS) : D.step.mem = D.mem := by
  unfold DS.step
  split
  · rfl
  · split <;> rfl
theorem write_secs (D : DS) (i : Int) (b : List Int) : (D.write i b).secs = D.secs := by
  unfold DS.write
  split
  · rfl
  · rw [step_secs]; rfl
theorem write_lookup (D : DS) (i : Int) (b : List Int) (k : Nat) (h : (k : Int) ≠ i) : (D.write i b).mem.lookup k = D.mem.lookup k := by
  unfold DS.write
  split
  · rfl
  · rename_i hn
    rw [step_mem]
    show (memPut D.mem i.toNat b).lookup k = _
    rw [lookup_put, if_neg (fun e => h (by omega))]
theorem writeE_cases {D : DS} {i : Int} {b : List Int} (h1 : 0 ≤ i) (h2 : i < D.secs.length) (h3 : b.length = 32) : (D.writeE i b = 0 ∧ D.down = false ∧ D.left ≠ 0) ∨ (D.writeE i b = 9) := by
  unfold DS.writeE
  rw [if_neg (by omega), if_neg (by omega)]
  by_cases hd : D.down = true
  · rw [if_pos hd]; exact .inr rfl
  · rw [if_neg hd]
    by_cases hl : D.left = 0
    · rw [if_pos hl]; exact .inr rfl
    · rw [if_neg hl]; exact .inl ⟨rfl, by simpa using hd, hl⟩
theorem writeE_zero {D : DS} {i : Int} {b : List Int} (h : D.writeE i b = 0) : 0 ≤ i ∧ i < D.secs.length ∧ b.length = 32 ∧ D.down = false ∧ D.left ≠ 0 := by
  unfold DS.writeE at h
  by_cases h1 : i < 0 ∨ (D.secs.length : Int) ≤ i
  · rw [if_pos h1] at h; cases h
  · rw [if_neg h1] at h
    by_cases h2 : b.length ≠ 32
    · rw [if_pos h2] at h; cases h
    · rw [if_neg h2] at h
      by_cases hd : D.down = true
      · rw [if_pos hd] at h; cases h
      · rw [if_neg hd] at h
        by_cases hl : D.left = 0
        · rw [if_pos hl] at h; cases h
        · exact ⟨by omega, by omega, by omega, by simpa using hd, hl⟩
theorem write_eq {D : DS} {i : Int} {b : List Int} (h : D.writeE i b = 0) : D.write i b = (D.put i.toNat b).step := by
  obtain ⟨h1, h2, h3, h4, _⟩ := writeE_zero h
  unfold DS.write
  rw [if_neg]
  rintro (h | h | h | h)
  · omega
  · omega
  · exact h h3
  · rw [h4] at h; cases h
theorem write_lookup_self {D : DS} {i : Int} {b : List Int} (h : D.writeE i b = 0) : (D.write i b).mem.lookup i.toNat = some b := by
  rw [write_eq h, step_mem]
  show (memPut D.mem i.toNat b).lookup i.toNat = _
  rw [lookup_put, if_pos rfl]
theorem write_down {D : DS} {i : Int} {b : List Int} (h : D.writeE i b = 0) : (D.write i b).down = false := by
  obtain ⟨h1, h2, h3, h4, h5⟩ := writeE_zero h
  rw [write_eq h]
  unfold DS.step
  rw [if_neg (show ¬ (D.put i.toNat b).left = 0 from h5)]
  split <;> exact h4
theorem rd_write {D : DS} {i : Int} {b : List Int} (h : D.writeE i b = 0) (k : Nat) : (D.write i b).rd k = if (k : Int) = i then b else D.rd k := by
  obtain ⟨h1, _⟩ := writeE_zero h
  unfold DS.rd
  by_cases hk : (k : Int) = i
  · rw [if_pos hk]
    have : k = i.toNat := by omega
    rw [this, write_lookup_self h]; rfl
  · rw [if_neg hk, write_lookup D i b k hk, write_secs]

theorem flushE_cases (D : DS) : (D.flushE = 0 ∧ D.down = false ∧ D.left ≠ 0) ∨ D.flushE = 9 := by
  unfold DS.flushE
  by_cases hd : D.down = true
  · rw [if_pos hd]; exact .inr rfl
  · rw [if_neg hd]
    by_cases hl : D.left = 0
    · rw [if_pos hl]; exact .inr rfl
    · rw [if_neg hl]; exact .inl ⟨rfl, by simpa using hd, hl⟩
theorem flush_eq {D : DS} (h : D.flushE = 0) : D.doFlush = D.step.flush ∧ D.step.down = false := by
  rcases flushE_cases D with ⟨_, h1, h2⟩ | h1
  · unfold DS.doFlush
    rw [if_neg (by rw [h1]; exact Bool.false_ne_true), if_neg h2]
    refine ⟨rfl, ?_⟩
    unfold DS.step
    rw [if_neg h2]
    split <;> exact h1
  · rw [h1] at h; cases h
theorem flush_same {D : DS} (h : D.flushE = 9) : D.doFlush.secs = D.secs ∧ D.doFlush.mem = D.mem := by
  unfold DS.doFlush
  by_cases hd : D.down = true
  · rw [if_pos hd]; exact ⟨rfl, rfl⟩
  · rw [if_neg hd]
    by_cases hl : D.left = 0
    · rw [if_pos hl]; exact ⟨rfl, rfl⟩
    · exfalso
      unfold DS.flushE at h
      rw [if_neg hd, if_neg hl] at h
      cases h
theorem lookup_index {m : List (Nat × List Int)} {k : Nat} {b : List Int} (h : m.lookup k = some b) : ∃ q, q < m.length ∧ m.getD q (0, []) = (k, b) := by
  obtain ⟨q, hq, e⟩ := List.getElem_of_mem (lookup_mem h)
  exact ⟨q, hq, by simp [List.getD, hq, e]⟩
theorem none_index {m : List (Nat × List Int)} {k : Nat} (h : m.lookup k = none) : ∀ j, j < m.length → (m.getD j (0, [])).1 ≠ k := fun j hj e => lookup_none.1 h (e ▸ key_mem hj)
theorem flush_getD {D : DS} (h : D.Ok) (k : Nat) : D.flush.secs.getD k [] = D.rd k := by
  show (flushK D.secs D.mem D.mem.length).getD k [] = _
  unfold DS.rd
  cases e : D.mem.lookup k with
  | none => exact flushK_other _ _ k _ (none_index e)
  | some b =>
    obtain ⟨q, hq, e2⟩ := lookup_index e
    have := flushK_at h.apart (fun p hp => (h.mem p hp).1) hq D.mem.length hq (Nat.le_refl _)
    rw [e2] at this
    exact this
theorem step_rd (D : DS) (k : Nat) : D.step.rd k = D.rd k := by unfold DS.rd; rw [step_mem, step_secs]
theorem doFlush_getD {D : DS} (h : D.Ok) (he : D.flushE = 0) (k : Nat) : D.doFlush.secs.getD k [] = D.rd k ∧ D.doFlush.mem = [] ∧ D.doFlush.down = false := by
  obtain ⟨h1, h2⟩ := flush_eq he
  rw [h1]
  exact ⟨by rw [flush_getD h.step, step_rd], rfl, h2⟩
theorem doFlush_len (D : DS) : D.doFlush.secs.length = D.secs.length := by
  unfold DS.doFlush
  split
  · rfl
  · split
    · rfl
    · show (flushK D.step.secs D.step.mem D.step.mem.length).length = _
      rw [length_flushK, step_secs]

/-! ### behind a crash -/
/-- What may stand in sector k behind a crash. -/
def Poss (D : DS) (k : Nat) (v : List Int) : Prop := v = D.secs.getD k [] ∨ ∃ b, D.mem.lookup k = some b ∧ (v = b ∨ ∃ c, c ≤ 32 ∧ v = mixL b (D.secs.getD k []) c)
theorem crash_poss {D : DS} (h : D.Ok) (keep : List Bool) (torn : Int) (c : Nat) (hc : c ≤ 32) (k : Nat) : Poss D k ((D.crash keep torn c).secs.getD k []) := by
  show Poss D k ((crashK D.secs D.mem keep torn c D.mem.length).getD k [])
  cases e : D.mem.lookup k with
  | none => exact .inl (crashK_other _ _ _ _ _ k _ (none_index e))
  | some b =>
    obtain ⟨q, hq, e2⟩ := lookup_index e
    have := crashK_at keep torn c h.apart (fun p hp => (h.mem p hp).1) hq D.mem.length hq (Nat.le_refl _)
    rw [e2] at this
    rw [this]
    unfold one
    split
    · exact .inr ⟨b, e, .inr ⟨c, hc, rfl⟩⟩
    · split
      · exact .inr ⟨b, e, .inl rfl⟩
      · exact .inl rfl

/-- Beyond W nothing is pending, and the sectors are those of C. -/
def Only (W : Nat → Prop) (D : DS) (C : Nat → List Int) : Prop := ∀ k, ¬ W k → D.mem.lookup k = none ∧ D.secs.getD k [] = C k
theorem Only.poss {W : Nat → Prop} {D : DS} {C : Nat → List Int} (h : Only W D C) {k : Nat} (hk : ¬ W k) {v : List Int} (hp : Poss D k v) : v = C k := by
  obtain ⟨h1, h2⟩ := h k hk
  rcases hp with hp | ⟨b, hb, _⟩
  · rw [hp, h2]
  · rw [h1] at hb; cases hb
theorem Only.write {W : Nat → Prop} {D : DS} {C : Nat → List Int} (h : Only W D C) (i : Int) (b : List Int) (hi : ∀ k : Nat, (k : Int) = i → W k) : Only W (D.write i b) C := fun k hk => by
  rw [write_lookup D i b k (fun e => hk (hi k e)), write_secs]
  exact h k hk
theorem Only.rd {W : Nat → Prop} {D : DS} {C : Nat → List Int} (h : Only W D C) {k : Nat} (hk : ¬ W k) : D.rd k = C k := by
  unfold DS.rd
  rw [(h k hk).1, (h k hk).2]; rfl
theorem Only.flush {W : Nat → Prop} {D : DS} {C : Nat → List Int} (h : Only W D C) (ho : D.Ok) : Only W D.doFlush C := fun k hk => by
  rcases flushE_cases D with ⟨he, _⟩ | he
  · obtain ⟨h1, h2, _⟩ := doFlush_getD ho he k
    rw [h1, h2]
    exact ⟨rfl, h.rd hk⟩
  · rw [(flush_same he).1, (flush_same he).2]
    exact h k hk
theorem Only.wider {W W' : Nat → Prop} {D : DS} {C : Nat → List Int} (h : Only W D C) (hw : ∀ k, W k → W' k) : Only W' D C := fun k hk => h k (fun h1 => hk (hw k h1))

/-! ### many writes -/
structure Run (W : Nat → Prop) (C : Nat → List Int) (n : Nat) (x : DS × Int) : Prop where
  ok : x.1.Ok
  only : Only W x.1 C
  len : x.1.secs.length = n
  err : (x.2 = 0 ∧ x.1.down = false) ∨ x.2 = 9
theorem Run.w {W : Nat → Prop} {C : Nat → List Int} {n : Nat} {x : DS × Int} (h : Run W C n x) {i : Int} {b : List Int} (h1 : 0 ≤ i) (h2 : i < n) (hb : Sec b) (hi : W i.toNat) : Run W C n (andW x i b) := by
  unfold andW
  split
  · rename_i hx
    refine ⟨h.ok.write hb.2, h.only.write i b (fun k hk => by rw [show k = i.toNat by omega]; exact hi), by show (x.1.write i b).secs.length = n; rw [write_secs]; exact h.len, ?_⟩
    rcases writeE_cases (D := x.1) h1 (by rw [h.len]; exact h2) hb.1 with ⟨he, _⟩ | he
    · exact .inl ⟨he, write_down he⟩
    · exact .inr he
  · exact h
theorem Run.f {W : Nat → Prop} {C : Nat → List Int} {n : Nat} {x : DS × Int} (h : Run W C n x) : Run W C n (andF x) := by
  unfold andF
  split
  · rename_i hx
    refine ⟨h.ok.doFlush, h.only.flush h.ok, by show x.1.doFlush.secs.length = n; rw [doFlush_len]; exact h.len, ?_⟩
    rcases flushE_cases x.1 with ⟨he, _⟩ | he
    · exact .inl ⟨he, (doFlush_getD h.ok he 0).2.2⟩
    · exact .inr he
  · exact h
theorem Run.ws {W : Nat → Prop} {C : Nat → List Int} {n : Nat} {x : DS × Int} (h : Run W C n x) {f : Nat → Int × List Int} : ∀ m, (∀ j, j < m → 0 ≤ (f j).1 ∧ (f j).1 < n ∧ Sec (f j).2 ∧ W (f j).1.toNat) → Run W C n (wsF x f m)
  | 0, _ => h
  | m + 1, hf => (Run.ws h m (fun j hj => hf j (by omega))).w (hf m (by omega)).1 (hf m (by omega)).2.1 (hf m (by omega)).2.2.1 (hf m (by omega)).2.2.2

theorem andW_zero {x : DS × Int} {i : Int} {b : List Int} (h : (andW x i b).2 = 0) : x.2 = 0 ∧ x.1.writeE i b = 0 ∧ (andW x i b).1 = x.1.write i b := by
  unfold andW at *
  split at h
  · rename_i hx
    rw [if_pos hx]
    exact ⟨hx, h, rfl⟩
  · rename_i hx
    exact absurd h hx
theorem andF_zero {x : DS × Int} (h : (andF x).2 = 0) : x.2 = 0 ∧ x.1.flushE = 0 ∧ (andF x).1 = x.1.doFlush := by
  unfold andF at *
  split at h
  · rename_i hx
    rw [if_pos hx]
    exact ⟨hx, h, rfl⟩
  · rename_i hx
    exact absurd h hx
/-- All went well: what was written is read, and all else is as it was. -/
theorem wsF_rd {x : DS × Int} {f : Nat → Int × List Int} : ∀ m, (wsF x f m).2 = 0 → (∀ i j, i < m → j < m → (f i).1 = (f j).1 → (f i).2 = (f j).2) →
    x.2 = 0 ∧ (∀ j, j < m → (wsF x f m).1.rd (f j).1.toNat = (f j).2) ∧ ∀ k : Nat, (∀ j, j < m → (f j).1 ≠ k) → (wsF x f m).1.rd k = x.1.rd k
  | 0, h, _ => ⟨h, fun j hj => by omega, fun k _ => rfl⟩
  | m + 1, h, hinj => by
    obtain ⟨h1, h2, h3⟩ := andW_zero (show (andW (wsF x f m) (f m).1 (f m).2).2 = 0 from h)
    obtain ⟨g1, g2, g3⟩ := wsF_rd m h1 (fun i j hi hj => hinj i j (by omega) (by omega))
    have hpos := (writeE_zero h2).1
    refine ⟨g1, fun j hj => ?_, fun k hk => ?_⟩
    · show (andW (wsF x f m) (f m).1 (f m).2).1.rd _ = _
      rw [h3, rd_write h2]
      by_cases e : j = m
      · subst e
        rw [if_pos (by omega)]
      · have hj' : j < m := by omega
        by_cases hz : 0 ≤ (f j).1
        · by_cases e2 : (f j).1 = (f m).1
          · rw [if_pos (by omega)]
            exact (hinj j m (by omega) (by omega) e2).symm
          · rw [if_neg (by omega), g2 j hj']
        · exfalso
          have : ∀ q, j < q → (wsF x f q).2 = 0 → 0 ≤ (f j).1 := by
            intro q
            induction q with
            | zero => intro h; omega
            | succ q ih =>
              intro hq hq0
              obtain ⟨a1, a2, _⟩ := andW_zero (show (andW (wsF x f q) (f q).1 (f q).2).2 = 0 from hq0)
              by_cases e3 : j = q
              · subst e3; exact (writeE_zero a2).1
              · exact ih (by omega) a1
          exact hz (this m hj' h1)
    · show (andW (wsF x f m) (f m).1 (f m).2).1.rd _ = _
      rw [h3, rd_write h2, if_neg (fun e => hk m (by omega) e.symm), g3 k (fun j hj => hk j (by omega))]
end Go.Proofs.YtjipnjmnkfjmhaaGreatDoor
/-! Plain mathematics of marks and pages: which mark counts, what a Commit comes to. (Part of the proofs over package pages.) -/
namespace Go.Proofs.YtjipnjmnkfjmhaaGreatDoor
open Go.RowKit
set_option linter.unusedVariables false

/-! ### marks -/
def numsOf (body : List Int) : List Int := (body.drop 1).take (body.getD 0 0).toNat
/-- A mark that is right: its stamp, and the numbers of its pages. -/
def mark (L : Nat) (b : List Int) : Option (Int × List Int) :=
  if (openOut b).2.2 = 0 ∧ (openOut b).2.1.getD 0 0 ≤ 23 ∧ (∀ z ∈ numsOf (openOut b).2.1, z < L) then some ((openOut b).1, numsOf (openOut b).2.1) else none
def pick (x : Int × Nat × List Int) (i : Nat) (m : Option (Int × List Int)) : Int × Nat × List Int :=
  match m with
  | some (s, l) => if x.1 < s then (s, i, l) else x
  | none => x
/-- Of both marks that are right the one with the greater stamp. -/
def best (L : Nat) (a b : List Int) : Int × Nat × List Int := pick (pick (0, 0, []) 0 (mark L a)) 1 (mark L b)

theorem best_at {L : Nat} {a : Nat} (ha : a = 0 ∨ a = 1) {v : Nat → List Int} {s : Int} {l : List Int} (hm : mark L (v a) = some (s, l)) (ho : ∀ t l', mark L (v (1 - a)) = some (t, l') → t < s) (hs : 0 < s) : best L (v 0) (v 1) = (s, a, l) := by
  unfold best
  rcases ha with rfl | rfl
  · rw [hm]
    have e : pick (0, 0, []) 0 (some (s, l)) = (s, 0, l) := by
      show (if (0 : Int) < s then (s, 0, l) else (0, 0, [])) = _
      rw [if_pos hs]
    rw [e]
    cases h1 : mark L (v 1) with
    | none => rfl
    | some q =>
      obtain ⟨t, l'⟩ := q
      have := ho t l' h1
      show (if s < t then (t, 1, l') else (s, 0, l)) = _
      rw [if_neg (by omega)]
  · rw [hm]
    cases h0 : mark L (v 0) with
    | none =>
      show (if (0 : Int) < s then (s, 1, l) else (0, 0, [])) = _
      rw [if_pos hs]
    | some q =>
      obtain ⟨t, l'⟩ := q
      have := ho t l' h0
      have e : (pick (0, 0, []) 0 (some (t, l'))).1 < s := by
        show (if (0 : Int) < t then (t, 0, l') else (0, 0, [])).1 < s
        split
        · exact this
        · exact hs
      show (if (pick (0, 0, []) 0 (some (t, l'))).1 < s then (s, 1, l) else pick (0, 0, []) 0 (some (t, l'))) = _
      rw [if_pos e]

theorem length_openOut (b : List Int) : (openOut b).2.1.length ≤ 24 := by
  unfold openOut
  split
  · simp
  · split
    · simp
    · split
      · simp
      · simp; omega
theorem mark_facts {L : Nat} {b : List Int} {s : Int} {l : List Int} (hb : Byt b) (h : mark L b = some (s, l)) : 0 < s ∧ l.length ≤ 23 ∧ (∀ z ∈ l, 0 ≤ z ∧ z < L) ∧ b.take 4 = b.drop 28 ∧ numOf (b.take 4) = s ∧ b.length = 32 := by
  unfold mark at h
  split at h
  · rename_i hc
    obtain ⟨h1, h2, h3⟩ := hc
    simp only [Option.some.injEq, Prod.mk.injEq] at h
    obtain ⟨hs, hl⟩ := h
    have hlen : b.length = 32 := by
      by_cases e : b.length ≠ 32
      · unfold openOut at h1; rw [if_pos e] at h1; cases h1
      · omega
    have he : getV b 0 4 = getV b 28 4 := by
      by_cases e : getV b 0 4 ≠ getV b 28 4
      · unfold openOut at h1; rw [if_neg (by omega), if_pos e] at h1; cases h1
      · omega
    have h0 : ¬ getV b 0 4 = 0 := by
      intro e
      unfold openOut at h1; rw [if_neg (by omega), if_neg (by omega), if_pos e] at h1; cases h1
    have ho : openOut b = (getV b 0 4, (b.drop 4).take 24, 0) := by unfold openOut; rw [if_neg (by omega), if_neg (by omega), if_neg h0]
    rw [ho] at hs hl h2 h3
    dsimp only at hs hl h2 h3
    have hbd := getV_bd b hb 0 4 (by omega)
    refine ⟨by omega, ?_, ?_, ?_, by rw [← getV_front]; exact hs, hlen⟩
    · rw [← hl]; unfold numsOf; simp; omega
    · intro z hz
      rw [← hl] at hz
      refine ⟨?_, h3 z hz⟩
      have : z ∈ b := List.mem_of_mem_drop (List.mem_of_mem_take (List.mem_of_mem_drop (List.mem_of_mem_take hz)))
      exact (hb z this).1
    · rw [getV_front, getV_back b hlen] at he
      exact numOf_inj (by simp; omega) (fun z hz => hb z (List.mem_of_mem_take hz)) (fun z hz => hb z (List.mem_of_mem_drop hz)) he
  · cases h

/-! ### what is opened -/
/-- Opened, the stamp is s and the pages are P. -/
def Rec (L : Nat) (v : Nat → List Int) (s : Int) (P : Nat → List Int) : Prop :=
  ∃ a l, (a = 0 ∨ a = 1) ∧ mark L (v a) = some (s, l) ∧ (∀ t l', mark L (v (1 - a)) = some (t, l') → t < s) ∧ 0 < s ∧ (∀ k, k < l.length → v (2 + 23 * a + k) = P (l.getD k 0).toNat) ∧ ∀ i, i < L → (i : Int) ∉ l → v (48 + i) = P i

/-- A device on which all pages stand where they belong. -/
structure Neat (D : DS) (L : Nat) (s : Int) (P : Nat → List Int) (a : Nat) (l : List Int) : Prop where
  ok : D.Ok
  mem : D.mem = []
  down : D.down = false
  len : 48 + L ≤ D.secs.length
  lt : L ≤ 200
  two : a = 0 ∨ a = 1
  even : s % 2 = (a : Int)
  s1 : 1 ≤ s
  s2 : s ≤ 1000
  got : mark L (D.secs.getD a []) = some (s, l)
  redo : ∀ k, k < l.length → D.secs.getD (2 + 23 * a + k) [] = P (l.getD k 0).toNat
  pages : ∀ i, i < L → D.secs.getD (48 + i) [] = P i
  other : (D.secs.getD (1 - a) []).take 4 = (D.secs.getD (1 - a) []).drop 28
  differs : (D.secs.getD (1 - a) []).take 4 ≠ side (s + 1)
  less : ∀ t l', mark L (D.secs.getD (1 - a) []) = some (t, l') → t < s

theorem Neat.fail {D : DS} {L : Nat} {s : Int} {P : Nat → List Int} {a : Nat} {l : List Int} (h : Neat D L s P a l) {f : Int} (hf : -9223372036854775808 ≤ f ∧ f ≤ 9223372036854775807) : Neat { D with left := f } L s P a l :=
  ⟨h.ok.fail hf, h.mem, h.down, h.len, h.lt, h.two, h.even, h.s1, h.s2, h.got, h.redo, h.pages, h.other, h.differs, h.less⟩
theorem Neat.again {D : DS} {L : Nat} {s : Int} {P : Nat → List Int} {a : Nat} {l : List Int} (h : Neat D L s P a l) : Rec L (fun k => D.secs.getD k []) s P :=
  ⟨a, l, h.two, h.got, h.less, by have := h.s1; omega, h.redo, fun i hi _ => h.pages i hi⟩

/-! ### a Commit -/
def pgFault (L : Int) (l : List (Int × List Int)) (k : Nat) : Int :=
  if (l.getD k (0, [])).1 < 0 ∨ L ≤ (l.getD k (0, [])).1 then 1 else if (l.getD k (0, [])).2.length ≠ 32 then 3 else if (List.range k).any (fun j => (l.getD j (0, [])).1 == (l.getD k (0, [])).1) then 7 else 0
def chkK (L : Int) (l : List (Int × List Int)) : Nat → Int
  | 0 => 0
  | k + 1 => if chkK L l k = 0 then pgFault L l k else chkK L l k
/-- The fault of pages that are to be committed (0: none). -/
def commitE (L : Int) (l : List (Int × List Int)) : Int := if 23 < l.length then 4 else chkK L l l.length

structure Valid (L : Nat) (l : List (Int × List Int)) : Prop where
  len : l.length ≤ 23
  num : ∀ k, k < l.length → 0 ≤ (l.getD k (0, [])).1 ∧ (l.getD k (0, [])).1 < L
  body : ∀ k, k < l.length → (l.getD k (0, [])).2.length = 32
  apart : ∀ j k, j < k → k < l.length → (l.getD j (0, [])).1 ≠ (l.getD k (0, [])).1
theorem chkK_zero {L : Nat} {l : List (Int × List Int)} : ∀ n, chkK L l n = 0 → ∀ k, k < n → pgFault L l k = 0
  | 0, _, k, hk => by omega
  | n + 1, h, k, hk => by
    unfold chkK at h
    by_cases h0 : chkK L l n = 0
    · rw [if_pos h0] at h
      by_cases e : k = n
      · subst e; exact h
      · exact chkK_zero n h0 k (by omega)
    · rw [if_neg h0] at h
      exact absurd h h0
theorem valid_of {L : Nat} {l : List (Int × List Int)} (h : commitE L l = 0) : Valid L l := by
  unfold commitE at h
  by_cases h1 : 23 < l.length
  · rw [if_pos h1] at h; cases h
  · rw [if_neg h1] at h
    have hp := chkK_zero l.length h
    have hall : ∀ k, k < l.length → (0 ≤ (l.getD k (0, [])).1 ∧ (l.getD k (0, [])).1 < L) ∧ (l.getD k (0, [])).2.length = 32 ∧ ∀ j, j < k → (l.getD j (0, [])).1 ≠ (l.getD k (0, [])).1 := by
      intro k hk
      have := hp k hk
      unfold pgFault at this
      by_cases c1 : (l.getD k (0, [])).1 < 0 ∨ (L : Int) ≤ (l.getD k (0, [])).1
      · rw [if_pos c1] at this; cases this
      · rw [if_neg c1] at this
        by_cases c2 : (l.getD k (0, [])).2.length ≠ 32
        · rw [if_pos c2] at this; cases this
        · rw [if_neg c2] at this
          by_cases c3 : (List.range k).any (fun j => (l.getD j (0, [])).1 == (l.getD k (0, [])).1) = true
          · rw [if_pos c3] at this; cases this
          · refine ⟨by omega, by omega, fun j hj e => c3 ?_⟩
            rw [List.any_eq_true]
            exact ⟨j, List.mem_range.2 hj, by simpa using e⟩
    exact ⟨by omega, fun k hk => (hall k hk).1, fun k hk => (hall k hk).2.1, fun j k hj hk => (hall k hk).2.2 j hj⟩
theorem pgFault_ne (L : Int) (l : List (Int × List Int)) (k : Nat) : pgFault L l k ≠ 9 := by
  unfold pgFault
  split
  · decide
  · split
    · decide
    · split <;> decide
theorem chkK_ne (L : Int) (l : List (Int × List Int)) : ∀ n, chkK L l n ≠ 9
  | 0 => by unfold chkK; decide
  | n + 1 => by
    unfold chkK
    split
    · exact pgFault_ne L l n
    · exact chkK_ne L l n
theorem commitE_ne (L : Int) (l : List (Int × List Int)) : commitE L l ≠ 9 := by
  unfold commitE
  split
  · decide
  · exact chkK_ne L l _

/-- What stands in a mark of these pages. -/
def markB (l : List (Int × List Int)) : List Int := (l.length : Int) :: l.map (·.1)
def commitA (D : DS) (a : Int) (l : List (Int × List Int)) : DS × Int := andF (wsF (D, 0) (fun i => (2 + 23 * a + i, (l.getD i (0, [])).2)) l.length)
def commitB (x : DS × Int) (a s : Int) (l : List (Int × List Int)) : DS × Int :=
  andF (if x.2 = 0 then (if (makeOut s (markB l)).2 = 0 then andW x a (makeOut s (markB l)).1 else (x.1, (makeOut s (markB l)).2)) else x)
def commitC (x : DS × Int) (l : List (Int × List Int)) : DS × Int := andF (wsF x (fun i => (48 + (l.getD i (0, [])).1, (l.getD i (0, [])).2)) l.length)
/-- Pages are written, from stamp s on. -/
def commitRun (D : DS) (s : Int) (l : List (Int × List Int)) : DS × Int := commitC (commitB (commitA D ((s + 1) % 2) l) ((s + 1) % 2) (s + 1) l) l
/-- The pages behind a Commit. -/
def upd (P : Nat → List Int) (l : List (Int × List Int)) (i : Nat) : List Int :=
  match l.find? (fun q => q.1 == (i : Int)) with
  | some q => q.2
  | none => P i

theorem upd_other {P : Nat → List Int} {l : List (Int × List Int)} {i : Nat} (h : (i : Int) ∉ l.map (·.1)) : upd P l i = P i := by
  unfold upd
  cases e : l.find? (fun q => q.1 == (i : Int)) with
  | none => rfl
  | some q =>
    exfalso
    have h1 := List.find?_some e
    have h2 := List.mem_of_find?_eq_some e
    exact h (List.mem_map.2 ⟨q, h2, by simpa using h1⟩)
theorem upd_at {P : Nat → List Int} {l : List (Int × List Int)} {L : Nat} (hv : Valid L l) {k : Nat} (hk : k < l.length) : upd P l (l.getD k (0, [])).1.toNat = (l.getD k (0, [])).2 := by
  unfold upd
  have h0 := hv.num k hk
  have hq : (((l.getD k (0, [])).1.toNat : Nat) : Int) = (l.getD k (0, [])).1 := by omega
  rw [hq]
  cases e : l.find? (fun q => q.1 == (l.getD k (0, [])).1) with
  | none =>
    exfalso
    have := List.find?_eq_none.1 e (l.getD k (0, [])) (by simp [List.getD, hk])
    simp at this
  | some q =>
    have h1 : q.1 = (l.getD k (0, [])).1 := by simpa using List.find?_some e
    obtain ⟨j, hj, hje⟩ := List.getElem_of_mem (List.mem_of_find?_eq_some e)
    have hg : l.getD j (0, []) = q := by simp [List.getD, hj, hje]
    have : j = k := by
      rcases Nat.lt_trichotomy j k with h | h | h
      · exact absurd (by rw [hg]; exact h1) (hv.apart j k h hk)
      · exact h
      · exact absurd (by rw [hg]; exact h1.symm) (hv.apart k j h hj)
    subst this
    rw [hg]

theorem length_markB (l : List (Int × List Int)) : (markB l).length = l.length + 1 := by simp [markB]
theorem mark_made {L : Nat} {s : Int} {l : List (Int × List Int)} (hv : Valid L l) (h1 : 1 ≤ s) (h2 : s ≤ 4294967295) : makeOut s (markB l) = (secL s (markB l), 0) ∧ mark L (secL s (markB l)) = some (s, l.map (·.1)) := by
  have hl := hv.len
  have hm := length_markB l
  refine ⟨by unfold makeOut; rw [if_neg (by omega), if_neg (by omega)], ?_⟩
  have ho := openOut_secL s (markB l) h1 h2 (by omega)
  have hn : numsOf (markB l ++ zerosB (24 - (markB l).length)) = l.map (·.1) := by
    unfold numsOf markB
    show List.take (Int.toNat ((l.length : Int))) (l.map (·.1) ++ zerosB _) = _
    rw [Int.toNat_natCast, List.take_append_of_le_length (by simp), List.take_of_length_le (by simp)]
  unfold mark
  rw [ho]
  dsimp only
  rw [hn, if_pos]
  refine ⟨rfl, ?_, fun z hz => ?_⟩
  · show (l.length : Int) ≤ 23
    omega
  · obtain ⟨q, hq, rfl⟩ := List.mem_map.1 hz
    obtain ⟨j, hj, hje⟩ := List.getElem_of_mem hq
    have := hv.num j hj
    have hg : l.getD j (0, []) = q := by simp [List.getD, hj, hje]
    rw [hg] at this
    exact this.2
theorem getD_nums (l : List (Int × List Int)) {k : Nat} (hk : k < l.length) : (l.map (·.1)).getD k 0 = (l.getD k (0, [])).1 := by simp [List.getD, hk]
end Go.Proofs.YtjipnjmnkfjmhaaGreatDoor
/-! ALL OR NOTHING, as plain mathematics: wherever the power goes in a Commit, whatever is kept, torn or not. (Part of the proofs over package pages.) -/
namespace Go.Proofs.YtjipnjmnkfjmhaaGreatDoor
open Go.RowKit
set_option linter.unusedVariables false

theorem andW_err {x : DS × Int} {i : Int} {b : List Int} (h : x.2 ≠ 0) : andW x i b = x := by unfold andW; rw [if_neg h]
theorem andF_err {x : DS × Int} (h : x.2 ≠ 0) : andF x = x := by unfold andF; rw [if_neg h]
theorem wsF_err {x : DS × Int} {f : Nat → Int × List Int} (h : x.2 ≠ 0) : ∀ m, wsF x f m = x
  | 0 => rfl
  | m + 1 => by
    show andW (wsF x f m) (f m).1 (f m).2 = x
    rw [wsF_err h m, andW_err h]
theorem commitC_err {x : DS × Int} {l : List (Int × List Int)} (h : x.2 ≠ 0) : commitC x l = x := by unfold commitC; rw [wsF_err h, andF_err h]
theorem commitB_err {x : DS × Int} {a s : Int} {l : List (Int × List Int)} (h : x.2 ≠ 0) : commitB x a s l = x := by unfold commitB; rw [if_neg h, andF_err h]

theorem lookup_write_le {D : DS} {i : Int} {b b' : List Int} {k : Nat} (h : (D.write i b).mem.lookup k = some b') : D.mem.lookup k = some b' ∨ b' = b := by
  by_cases hk : (k : Int) = i
  · unfold DS.write at h
    split at h
    · exact .inl h
    · rw [step_mem] at h
      have h' : (memPut D.mem i.toNat b).lookup k = some b' := h
      rw [lookup_put] at h'
      split at h'
      · exact .inr (Option.some.inj h').symm
      · exact .inl h'
  · rw [write_lookup D i b k hk] at h
    exact .inl h

/-- All sectors of a device, as they are. -/
def img (D : DS) (k : Nat) : List Int := D.secs.getD k []
theorem only_img {D : DS} (h : D.mem = []) (W : Nat → Prop) : Only W D (img D) := fun k _ => by rw [h]; exact ⟨rfl, rfl⟩

/-- What a Commit that was cut comes to: opened, it is as it was, or all of it is there. -/
def Cut (D : DS) (L : Nat) (s : Int) (P : Nat → List Int) (l : List (Int × List Int)) : Prop :=
  ∀ v : Nat → List Int, (∀ k, Poss D k (v k)) → Rec L v s P ∨ Rec L v (s + 1) (upd P l)

section
variable {D : DS} {L : Nat} {s : Int} {P : Nat → List Int} {a : Nat} {nl : List Int} {l : List (Int × List Int)}

/-- The other side's sectors for pages. -/
def reg (a : Nat) (k : Nat) : Prop := 2 + 23 * (1 - a) ≤ k ∧ k < 25 + 23 * (1 - a)

theorem run_a (h : Neat D L s P a nl) (hv : Valid L l) (hb : ∀ k, k < l.length → Byt (l.getD k (0, [])).2) : Run (reg a) (img D) D.secs.length (commitA D ((s + 1) % 2) l) := by
  have ha : (s + 1) % 2 = ((1 - a : Nat) : Int) := by have := h.even; rcases h.two with rfl | rfl <;> omega
  have hl := h.len
  have hvl := hv.len
  unfold commitA
  refine Run.f (Run.ws (⟨h.ok, only_img h.mem _, rfl, .inl ⟨rfl, h.down⟩⟩ : Run (reg a) (img D) D.secs.length (D, 0)) l.length (fun j hj => ?_))
  rw [ha]
  have h2 := h.two
  have hL := hv.num j hj
  refine ⟨by omega, by omega, ⟨hv.body j hj, hb j hj⟩, ?_⟩
  unfold reg
  constructor <;> omega

/-- While the bodies are written aside nothing is another. -/
theorem cut_a (h : Neat D L s P a nl) {D' : DS} (ho : Only (reg a) D' (img D)) : ∀ v : Nat → List Int, (∀ k, Poss D' k (v k)) → Rec L v s P := by
  intro v hv
  have e : ∀ k, ¬ reg a k → v k = img D k := fun k hk => ho.poss hk (hv k)
  have hn := mark_facts (sec_getD h.ok.sec (by have := h.len; rcases h.two with rfl | rfl <;> omega)).2 h.got
  have h2 := h.two
  refine ⟨a, nl, h.two, ?_, ?_, by have := h.s1; omega, fun k hk => ?_, fun i hi _ => ?_⟩
  · rw [e a (by unfold reg; omega)]; exact h.got
  · rw [e (1 - a) (by unfold reg; omega)]; exact h.less
  · rw [e (2 + 23 * a + k) (by unfold reg; have := hn.2.1; omega)]; exact h.redo k hk
  · rw [e (48 + i) (by unfold reg; omega)]; exact h.pages i hi

/-- The bodies stand aside. -/
structure Aside (D : DS) (L : Nat) (s : Int) (P : Nat → List Int) (a : Nat) (nl : List Int) (l : List (Int × List Int)) (E : DS) : Prop where
  ok : E.Ok
  mem : E.mem = []
  down : E.down = false
  len : E.secs.length = D.secs.length
  same : ∀ k, ¬ reg a k → img E k = img D k
  body : ∀ j, j < l.length → img E (2 + 23 * (1 - a) + j) = (l.getD j (0, [])).2

theorem aside (h : Neat D L s P a nl) (hv : Valid L l) (hb : ∀ k, k < l.length → Byt (l.getD k (0, [])).2) (he : (commitA D ((s + 1) % 2) l).2 = 0) : Aside D L s P a nl l (commitA D ((s + 1) % 2) l).1 := by
  have hr := run_a h hv hb
  have ha : (s + 1) % 2 = ((1 - a : Nat) : Int) := by have := h.even; rcases h.two with rfl | rfl <;> omega
  have hrun : (commitA D ((s + 1) % 2) l).2 = 0 := he
  unfold commitA at he hr ⊢
  obtain ⟨e1, e2, e3⟩ := andF_zero he
  obtain ⟨r1, r2, r3, _⟩ := hr
  rw [e3] at r1 r2 r3 ⊢
  have hok : (wsF (D, 0) (fun i => (2 + 23 * ((s + 1) % 2) + i, (l.getD i (0, [])).2)) l.length).1.Ok := by
    have hl := h.len
    have hvl := hv.len
    refine (Run.ws (⟨h.ok, only_img h.mem _, rfl, .inl ⟨rfl, h.down⟩⟩ : Run (reg a) (img D) D.secs.length (D, 0)) l.length (fun j hj => ?_)).ok
    rw [ha]
    have h2 := h.two
    refine ⟨by omega, by omega, ⟨hv.body j hj, hb j hj⟩, ?_⟩
    unfold reg
    constructor <;> omega
  have hw := wsF_rd l.length e1 (fun i j _ _ e => by dsimp only at e ⊢; rw [show i = j by omega])
  refine ⟨r1, (doFlush_getD hok e2 0).2.1, (doFlush_getD hok e2 0).2.2, r3, fun k hk => (r2 k hk).2, fun j hj => ?_⟩
  show (DS.doFlush _).secs.getD _ [] = _
  rw [(doFlush_getD hok e2 _).1]
  have := hw.2.1 j hj
  dsimp only at this
  rw [ha] at this ⊢
  rw [show (2 + 23 * ((1 - a : Nat) : Int) + (j : Int)).toNat = 2 + 23 * (1 - a) + j by omega] at this
  exact this

variable {E : DS}

theorem Aside.recNew (h : Neat D L s P a nl) (hv : Valid L l) (hs : Aside D L s P a nl l E) {v : Nat → List Int} (e : ∀ k, k ≠ 1 - a → (∀ j, j < l.length → (k : Int) ≠ 48 + (l.getD j (0, [])).1) → v k = img E k) (hx : v (1 - a) = secL (s + 1) (markB l)) : Rec L v (s + 1) (upd P l) := by
  have h2 := h.two
  have hs1 := h.s1
  have hs2 := h.s2
  have hm := (mark_made hv (show 1 ≤ s + 1 by omega) (by omega)).2
  have ha1 : 1 - (1 - a) = a := by omega
  have hvl := hv.len
  refine ⟨1 - a, l.map (·.1), by omega, ?_, ?_, by omega, fun k hk => ?_, fun i hi hn => ?_⟩
  · rw [hx]; exact hm
  · rw [ha1, e a (by omega) (fun j hj => by have := hv.num j hj; omega), hs.same a (by unfold reg; omega)]
    intro t l' ht
    have hg : mark L (img D a) = some (s, nl) := h.got
    rw [hg] at ht
    have : s = t := by simpa using congrArg (fun o : Option (Int × List Int) => (o.map (·.1)).getD 0) ht
    omega
  · have hk' : k < l.length := by simpa using hk
    rw [e _ (by omega) (fun j hj => by have := hv.num j hj; omega), hs.body k hk', getD_nums l hk', upd_at hv hk']
  · rw [upd_other hn, e _ (by omega) (fun j hj e2 => hn (List.mem_map.2 ⟨l.getD j (0, []), by simp [List.getD, hj], by omega⟩)), hs.same (48 + i) (by unfold reg; omega)]
    exact h.pages i hi

/-- While the mark is written it is as it was, or all of it is there. -/
theorem cut_b (h : Neat D L s P a nl) (hv : Valid L l) (hs : Aside D L s P a nl l E) {E' : DS} (ho : Only (fun k => k = 1 - a) E' (img E)) (hsec : E'.secs = E.secs) (hlook : ∀ b, E'.mem.lookup (1 - a) = some b → b = secL (s + 1) (markB l)) : Cut E' L s P l := by
  intro v hp
  have h2 := h.two
  have hs1 := h.s1
  have hs2 := h.s2
  have hvl := hv.len
  have hml := length_markB l
  have e : ∀ k, k ≠ 1 - a → v k = img E k := fun k hk => ho.poss hk (hp k)
  have hY : img E (1 - a) = img D (1 - a) := hs.same (1 - a) (by unfold reg; omega)
  have old : (∀ t l', mark L (v (1 - a)) = some (t, l') → t < s) → Rec L v s P := fun hm => by
    have hn := mark_facts (sec_getD h.ok.sec (by have := h.len; omega)).2 h.got
    refine ⟨a, nl, h.two, ?_, hm, by omega, fun k hk => ?_, fun i hi _ => ?_⟩
    · rw [e a (by omega), hs.same a (by unfold reg; omega)]; exact h.got
    · rw [e _ (by omega), hs.same _ (by unfold reg; have := hn.2.1; omega)]; exact h.redo k hk
    · rw [e _ (by omega), hs.same _ (by unfold reg; omega)]; exact h.pages i hi
  have new : v (1 - a) = secL (s + 1) (markB l) → Rec L v (s + 1) (upd P l) := fun hx => hs.recNew h hv (fun k hk _ => e k hk) hx
  have hlast : v (1 - a) = img D (1 - a) → Rec L v s P ∨ Rec L v (s + 1) (upd P l) := fun hx => .inl (old (by rw [hx]; exact h.less))
  rcases hp (1 - a) with hq | ⟨b, hb, hq⟩
  · rw [hsec] at hq
    exact hlast (hq.trans hY)
  · have hbx := hlook b hb
    subst hbx
    rcases hq with hq | ⟨c, hc, hq⟩
    · exact .inr (new hq)
    · rw [hsec, show E.secs.getD (1 - a) [] = img D (1 - a) from hY] at hq
      have hXl : (secL (s + 1) (markB l)).length = 32 := length_secL _ _ (by omega)
      have hDs : Sec (img D (1 - a)) := sec_getD h.ok.sec (by have := h.len; omega)
      have hbm : Byt (markB l) := fun z hz => by
        rcases List.mem_cons.1 hz with rfl | hz
        · omega
        · obtain ⟨q, hq, rfl⟩ := List.mem_map.1 hz
          obtain ⟨j, hj, hje⟩ := List.getElem_of_mem hq
          have hn := hv.num j hj
          have hg : l.getD j (0, []) = q := by simp [List.getD, hj, hje]
          rw [hg] at hn
          have := h.lt
          omega
      by_cases ho2 : (openOut (v (1 - a))).2.2 = 0
      · rw [hq] at ho2
        rcases torn_told hXl hDs.1 (byt_secL _ _ hbm) hDs.2 (by rw [secL_front _ _ (by omega), secL_back _ _ (by omega)]) h.other (by rw [secL_front _ _ (by omega)]; exact fun e => h.differs e.symm) hc ho2 with hz | hz
        · exact .inr (new (hq.trans hz))
        · exact hlast (hq.trans hz)
      · refine .inl (old ?_)
        intro t l' ht
        unfold mark at ht
        rw [if_neg (fun hc => ho2 hc.1)] at ht
        cases ht

/-- What the mark's writing comes to. -/
theorem run_b (h : Neat D L s P a nl) (hv : Valid L l) (hs : Aside D L s P a nl l E) :
    ((commitB (E, 0) ((s + 1) % 2) (s + 1) l).2 = 9 ∧ (commitB (E, 0) ((s + 1) % 2) (s + 1) l).1.Ok ∧ (commitB (E, 0) ((s + 1) % 2) (s + 1) l).1.secs.length = D.secs.length ∧ Cut (commitB (E, 0) ((s + 1) % 2) (s + 1) l).1 L s P l) ∨
    ((commitB (E, 0) ((s + 1) % 2) (s + 1) l).2 = 0 ∧ (commitB (E, 0) ((s + 1) % 2) (s + 1) l).1.Ok ∧ (commitB (E, 0) ((s + 1) % 2) (s + 1) l).1.mem = [] ∧ (commitB (E, 0) ((s + 1) % 2) (s + 1) l).1.down = false ∧
      (commitB (E, 0) ((s + 1) % 2) (s + 1) l).1.secs.length = D.secs.length ∧ (∀ k, k ≠ 1 - a → img (commitB (E, 0) ((s + 1) % 2) (s + 1) l).1 k = img E k) ∧ img (commitB (E, 0) ((s + 1) % 2) (s + 1) l).1 (1 - a) = secL (s + 1) (markB l)) := by
  have ha : (s + 1) % 2 = ((1 - a : Nat) : Int) := by have := h.even; rcases h.two with rfl | rfl <;> omega
  have h2 := h.two
  have hs1 := h.s1
  have hs2 := h.s2
  have hlen := h.len
  have hvl := hv.len
  have hml := length_markB l
  have hm := (mark_made hv (show 1 ≤ s + 1 by omega) (by omega)).1
  have hbm : Byt (markB l) := fun z hz => by
    rcases List.mem_cons.1 hz with rfl | hz
    · omega
    · obtain ⟨q, hq, rfl⟩ := List.mem_map.1 hz
      obtain ⟨j, hj, hje⟩ := List.getElem_of_mem hq
      have hn := hv.num j hj
      have hg : l.getD j (0, []) = q := by simp [List.getD, hj, hje]
      rw [hg] at hn
      have := h.lt
      omega
  have hX : Sec (secL (s + 1) (markB l)) := ⟨length_secL _ _ (by omega), byt_secL _ _ hbm⟩
  have e0 : commitB (E, 0) ((s + 1) % 2) (s + 1) l = andF (andW (E, 0) ((1 - a : Nat) : Int) (secL (s + 1) (markB l))) := by
    unfold commitB
    rw [if_pos rfl, hm, if_pos rfl, ha]
  rw [e0]
  have r0 : Run (fun k => k = 1 - a) (img E) D.secs.length (E, 0) := ⟨hs.ok, only_img hs.mem _, hs.len, .inl ⟨rfl, hs.down⟩⟩
  have r1 := r0.w (i := ((1 - a : Nat) : Int)) (b := secL (s + 1) (markB l)) (by omega) (by omega) hX (by omega)
  have r2 := r1.f
  have hsec1 : (andW (E, 0) ((1 - a : Nat) : Int) (secL (s + 1) (markB l))).1.secs = E.secs := by
    unfold andW; rw [if_pos rfl]; exact write_secs _ _ _
  have hlook1 : ∀ b, (andW (E, 0) ((1 - a : Nat) : Int) (secL (s + 1) (markB l))).1.mem.lookup (1 - a) = some b → b = secL (s + 1) (markB l) := by
    intro b hb
    unfold andW at hb
    rw [if_pos rfl] at hb
    rcases lookup_write_le hb with h3 | h3
    · have h4 : E.mem.lookup (1 - a) = some b := h3
      rw [hs.mem] at h4; cases h4
    · exact h3
  generalize hx : andW (E, 0) ((1 - a : Nat) : Int) (secL (s + 1) (markB l)) = x at *
  rcases r2.err with ⟨hz, hd⟩ | hz
  · right
    obtain ⟨f1, f2, f3⟩ := andF_zero hz
    rw [← hx] at f1
    obtain ⟨g1, g2, g3⟩ := andW_zero f1
    rw [hx] at g3
    have hok := r1.ok
    have hfl := fun k => doFlush_getD hok f2 k
    refine ⟨hz, r2.ok, ?_, hd, r2.len, fun k hk => (r2.only k hk).2, ?_⟩
    · rw [f3]; exact (hfl 0).2.1
    · show (andF x).1.secs.getD (1 - a) [] = _
      rw [f3, (hfl _).1, g3, rd_write g2, if_pos rfl]
  · left
    refine ⟨hz, r2.ok, r2.len, ?_⟩
    by_cases hx0 : x.2 = 0
    · have hf : x.1.flushE = 9 := by
        unfold andF at hz
        rw [if_pos hx0] at hz
        exact hz
      have e1 : (andF x).1 = x.1.doFlush := by unfold andF; rw [if_pos hx0]
      rw [e1]
      refine cut_b h hv hs (fun k hk => ?_) ?_ ?_
      · rw [(flush_same hf).1, (flush_same hf).2]; exact r1.only k hk
      · rw [(flush_same hf).1]; exact hsec1
      · rw [(flush_same hf).2]; exact hlook1
    · rw [andF_err hx0]
      exact cut_b h hv hs r1.only hsec1 hlook1

/-- ALL OR NOTHING: a Commit of pages that are right, wherever the power goes. -/
theorem commit_all (h : Neat D L s P a nl) (hs9 : s ≤ 999) (hv : Valid L l) (hb : ∀ k, k < l.length → Byt (l.getD k (0, [])).2) :
    ((commitRun D s l).2 = 0 ∧ Neat (commitRun D s l).1 L (s + 1) (upd P l) (1 - a) (l.map (·.1)) ∧ (commitRun D s l).1.secs.length = D.secs.length) ∨
    ((commitRun D s l).2 = 9 ∧ (commitRun D s l).1.Ok ∧ (commitRun D s l).1.secs.length = D.secs.length ∧ Cut (commitRun D s l).1 L s P l) := by
  have hra := run_a h hv hb
  unfold commitRun
  rcases hra.err with ⟨he, _⟩ | he
  · have hs := aside h hv hb he
    have ex : commitA D ((s + 1) % 2) l = ((commitA D ((s + 1) % 2) l).1, 0) := Prod.ext rfl he
    generalize (commitA D ((s + 1) % 2) l).1 = E at hs ex
    rw [ex]
    rcases run_b h hv hs with ⟨b1, b2, b3, b4⟩ | ⟨b1, b2, b3, b4, b5, b6, b7⟩
    · rw [commitC_err (by rw [b1]; decide)]
      exact .inr ⟨b1, b2, b3, b4⟩
    · have ey : commitB (E, 0) ((s + 1) % 2) (s + 1) l = ((commitB (E, 0) ((s + 1) % 2) (s + 1) l).1, 0) := Prod.ext rfl b1
      generalize (commitB (E, 0) ((s + 1) % 2) (s + 1) l).1 = F at b2 b3 b4 b5 b6 b7 ey
      rw [ey]
      have h2 := h.two
      have hs1 := h.s1
      have hlen := h.len
      have hvl := hv.len
      have r0 : Run (fun k => ∃ j, j < l.length ∧ (k : Int) = 48 + (l.getD j (0, [])).1) (img F) D.secs.length (F, 0) := ⟨b2, only_img b3 _, b5, .inl ⟨rfl, b4⟩⟩
      have r1 := r0.ws (f := fun i => (48 + (l.getD i (0, [])).1, (l.getD i (0, [])).2)) l.length (fun j hj => by
        have hn := hv.num j hj
        refine ⟨?_, ?_, ⟨hv.body j hj, hb j hj⟩, j, hj, ?_⟩ <;> (dsimp only; omega))
      have r2 := r1.f
      have hrec : ∀ v : Nat → List Int, (∀ k : Nat, ¬ (∃ j, j < l.length ∧ (k : Int) = 48 + (l.getD j (0, [])).1) → v k = img F k) → Rec L v (s + 1) (upd P l) := fun v e => by
        refine hs.recNew h hv (fun k hk hn => ?_) ?_
        · rw [e k (fun ⟨j, hj, hk2⟩ => hn j hj hk2), b6 k hk]
        · rw [e (1 - a) (fun ⟨j, hj, hk2⟩ => by have := hv.num j hj; omega), b7]
      unfold commitC
      rcases r2.err with ⟨hz, hd⟩ | hz
      · left
        refine ⟨hz, ?_, r2.len⟩
        obtain ⟨f1, f2, f3⟩ := andF_zero hz
        have hfl := fun k => doFlush_getD r1.ok f2 k
        have hw := wsF_rd l.length f1 (fun i j hi hj e => by
          dsimp only at e ⊢
          rcases Nat.lt_trichotomy i j with h3 | h3 | h3
          · exact absurd (by omega) (hv.apart i j h3 hj)
          · rw [h3]
          · exact absurd (by omega) (hv.apart j i h3 hi))
        have hsame : ∀ k : Nat, ¬ (∃ j, j < l.length ∧ (k : Int) = 48 + (l.getD j (0, [])).1) → img (andF (wsF (F, 0) (fun i => (48 + (l.getD i (0, [])).1, (l.getD i (0, [])).2)) l.length)).1 k = img F k := fun k hk => (r2.only k hk).2
        have hlow : ∀ k : Nat, k < 48 → img (andF (wsF (F, 0) (fun i => (48 + (l.getD i (0, [])).1, (l.getD i (0, [])).2)) l.length)).1 k = img F k := fun k hk => hsame k (fun ⟨j, hj, hk2⟩ => by have := hv.num j hj; omega)
        have hm := (mark_made hv (show 1 ≤ s + 1 by omega) (by omega)).2
        have ha1 : 1 - (1 - a) = a := by omega
        have hback : img (andF (wsF (F, 0) (fun i => (48 + (l.getD i (0, [])).1, (l.getD i (0, [])).2)) l.length)).1 a = img D a := by
          rw [hlow a (by omega), b6 a (by omega), hs.same a (by unfold reg; omega)]
        have hfa := mark_facts (sec_getD h.ok.sec (show a < D.secs.length by omega)).2 h.got
        refine ⟨r2.ok, ?_, hd, by rw [r2.len]; exact hlen, h.lt, by omega, ?_, by omega, by omega, ?_, fun k hk => ?_, fun i hi => ?_, ?_, ?_, ?_⟩
        · rw [f3]; exact (hfl 0).2.1
        · have := h.even
          rcases h2 with rfl | rfl <;> omega
        · show mark L (img _ (1 - a)) = _
          rw [hlow (1 - a) (by omega), b7]; exact hm
        · have hk' : k < l.length := by simpa using hk
          show img _ _ = _
          rw [hlow _ (by omega), b6 _ (by omega), hs.body k hk', getD_nums l hk', upd_at hv hk']
        · show img _ (48 + i) = _
          by_cases hin : ∃ j, j < l.length ∧ ((48 + i : Nat) : Int) = 48 + (l.getD j (0, [])).1
          · obtain ⟨j, hj, hk2⟩ := hin
            have hn := hv.num j hj
            have e1 := hw.2.1 j hj
            dsimp only at e1
            rw [show (48 + (l.getD j (0, [])).1).toNat = 48 + i by omega] at e1
            show (andF _).1.secs.getD (48 + i) [] = _
            rw [f3, (hfl _).1, e1, ← upd_at (P := P) hv hj, show (l.getD j (0, [])).1.toNat = i by omega]
          · rw [hsame _ hin, b6 _ (by omega), hs.same _ (by unfold reg; omega), upd_other (fun hm2 => hin (by
              obtain ⟨q, hq, hqe⟩ := List.mem_map.1 hm2
              obtain ⟨j, hj, hje⟩ := List.getElem_of_mem hq
              have hg : l.getD j (0, []) = q := by simp [List.getD, hj, hje]
              exact ⟨j, hj, by rw [hg]; omega⟩))]
            exact h.pages i hi
        · rw [ha1]
          show (img _ a).take 4 = (img _ a).drop 28
          rw [hback]; exact hfa.2.2.2.1
        · rw [ha1]
          show (img _ a).take 4 ≠ _
          rw [hback]
          intro e
          have e1 := hfa.2.2.2.2.1
          rw [show (D.secs.getD a []).take 4 = side (s + 1 + 1) from e, numOf_side (s + 1 + 1) (by omega) (by omega)] at e1
          omega
        · rw [ha1]
          show ∀ t l', mark L (img _ a) = some (t, l') → t < s + 1
          rw [hback]
          intro t l' ht
          have hg : mark L (img D a) = some (s, nl) := h.got
          rw [hg] at ht
          have : s = t := by simpa using congrArg (fun o : Option (Int × List Int) => (o.map (·.1)).getD 0) ht
          omega
      · right
        exact ⟨hz, r2.ok, r2.len, fun v hp => .inr (hrec v (fun k hk => r2.only.poss hk (hp k)))⟩
  · right
    rw [commitB_err (by rw [he]; decide), commitC_err (by rw [he]; decide)]
    exact ⟨he, hra.ok, hra.len, fun v hp => .inl (cut_a h hra.only v hp)⟩
end
end Go.Proofs.YtjipnjmnkfjmhaaGreatDoor
/-! Opening pages, as plain mathematics: wherever the power goes while they are opened. (Part of the proofs over package pages.) -/
namespace Go.Proofs.YtjipnjmnkfjmhaaGreatDoor
open Go.RowKit
set_option linter.unusedVariables false

/-- The pages of a mark are written to where they belong. -/
def openRun (D : DS) (a : Nat) (l : List Int) : DS × Int := andF (wsF (D, 0) (fun i => (48 + l.getD i 0, D.rd (2 + 23 * a + i))) l.length)

/-- Opened: all pages stand where they belong; the marks, and what stands aside, are as they were. -/
structure Opened (D E : DS) (L : Nat) (P : Nat → List Int) : Prop where
  ok : E.Ok
  mem : E.mem = []
  down : E.down = false
  len : E.secs.length = D.secs.length
  low : ∀ k, k < 48 → img E k = img D k
  pages : ∀ i, i < L → img E (48 + i) = P i

theorem rd_img {D : DS} (h : D.mem = []) (k : Nat) : D.rd k = img D k := by unfold DS.rd img; rw [h]; rfl

theorem mem_getD {l : List Int} {k : Nat} (hk : k < l.length) : l.getD k 0 ∈ l := by
  rw [List.getD_eq_getElem?_getD, List.getElem?_eq_getElem hk]; exact List.getElem_mem hk

theorem open_all {D : DS} {L : Nat} {s : Int} {P : Nat → List Int} (hok : D.Ok) (hm : D.mem = []) (hd : D.down = false) (hlen : 48 + L ≤ D.secs.length) (hr : Rec L (img D) s P) :
    ∃ a l, best L (img D 0) (img D 1) = (s, a, l) ∧ 0 < s ∧ (a = 0 ∨ a = 1) ∧ l.length ≤ 23 ∧ (∀ z ∈ l, 0 ≤ z ∧ z < L) ∧
      (((openRun D a l).2 = 0 ∧ Opened D (openRun D a l).1 L P) ∨
       ((openRun D a l).2 = 9 ∧ (openRun D a l).1.Ok ∧ (openRun D a l).1.secs.length = D.secs.length ∧ ∀ v : Nat → List Int, (∀ k, Poss (openRun D a l).1 k (v k)) → Rec L v s P)) := by
  obtain ⟨a, l, h2, hg, hless, hs, hredo, hpages⟩ := hr
  have hf := mark_facts (sec_getD hok.sec (show a < D.secs.length by omega)).2 hg
  refine ⟨a, l, best_at h2 hg hless hs, hs, h2, hf.2.1, hf.2.2.1, ?_⟩
  have hl := hf.2.1
  have hnum := hf.2.2.1
  have r0 : Run (fun k => ∃ j, j < l.length ∧ (k : Int) = 48 + l.getD j 0) (img D) D.secs.length (D, 0) := ⟨hok, only_img hm _, rfl, .inl ⟨rfl, hd⟩⟩
  have r1 := r0.ws (f := fun i => (48 + l.getD i 0, D.rd (2 + 23 * a + i))) l.length (fun j hj => by
    have hn := hnum _ (mem_getD hj)
    refine ⟨?_, ?_, hok.rd (by omega), j, hj, ?_⟩ <;> (dsimp only; omega))
  have r2 := r1.f
  unfold openRun
  rcases r2.err with ⟨hz, hdz⟩ | hz
  · left
    obtain ⟨f1, f2, f3⟩ := andF_zero hz
    have hfl := fun k => doFlush_getD r1.ok f2 k
    have hw := wsF_rd l.length f1 (fun i j hi hj e => by
      dsimp only at e ⊢
      rw [rd_img hm, rd_img hm, hredo i hi, hredo j hj, show l.getD i 0 = l.getD j 0 by omega])
    refine ⟨hz, r2.ok, by rw [f3]; exact (hfl 0).2.1, hdz, r2.len, fun k hk => (r2.only k (fun ⟨j, hj, hk2⟩ => by have := hnum _ (mem_getD hj); omega)).2, fun i hi => ?_⟩
    by_cases hin : (i : Int) ∈ l
    · obtain ⟨j, hj, hje⟩ := List.getElem_of_mem hin
      have hjd : l.getD j 0 = (i : Int) := by rw [List.getD_eq_getElem?_getD, List.getElem?_eq_getElem hj, hje]; rfl
      have e1 := hw.2.1 j hj
      dsimp only at e1
      rw [hjd, show (48 + (i : Int)).toNat = 48 + i by omega, rd_img hm, hredo j hj, hjd, Int.toNat_natCast] at e1
      show (andF _).1.secs.getD (48 + i) [] = _
      rw [f3, (hfl _).1, e1]
    · have hno : ¬ ∃ j, j < l.length ∧ ((48 + i : Nat) : Int) = 48 + l.getD j 0 := fun ⟨j, hj, hk2⟩ => hin (by
        have := mem_getD hj
        rwa [show l.getD j 0 = (i : Int) by omega] at this)
      have e1 : img (andF (wsF (D, 0) (fun i => (48 + l.getD i 0, D.rd (2 + 23 * a + i))) l.length)).1 (48 + i) = img D (48 + i) := (r2.only _ hno).2
      rw [e1]
      exact hpages i hi hin
  · right
    refine ⟨hz, r2.ok, r2.len, fun v hp => ?_⟩
    have e : ∀ k : Nat, ¬ (∃ j, j < l.length ∧ (k : Int) = 48 + l.getD j 0) → v k = img D k := fun k hk => r2.only.poss hk (hp k)
    have low : ∀ k : Nat, k < 48 → v k = img D k := fun k hk => e k (fun ⟨j, hj, hk2⟩ => by have := hnum _ (mem_getD hj); omega)
    refine ⟨a, l, h2, ?_, ?_, hs, fun k hk => ?_, fun i hi hin => ?_⟩
    · rw [low a (by omega)]; exact hg
    · rw [low (1 - a) (by omega)]; exact hless
    · rw [low _ (by omega)]; exact hredo k hk
    · rw [e (48 + i) (fun ⟨j, hj, hk2⟩ => hin (by
        have := mem_getD hj
        rwa [show l.getD j 0 = (i : Int) by omega] at this))]
      exact hpages i hi hin

/-- Opened, it is opened again as it is. -/
theorem Opened.again {D E : DS} {L : Nat} {s : Int} {P : Nat → List Int} (h : Opened D E L P) (hr : Rec L (img D) s P) (hok : D.Ok) (hlen : 48 + L ≤ D.secs.length) : Rec L (img E) s P := by
  obtain ⟨a, l, h2, hg, hless, hs, hredo, hpages⟩ := hr
  have hf := mark_facts (sec_getD hok.sec (show a < D.secs.length by omega)).2 hg
  refine ⟨a, l, h2, ?_, ?_, hs, fun k hk => ?_, fun i hi _ => h.pages i hi⟩
  · rw [h.low a (by omega)]; exact hg
  · rw [h.low (1 - a) (by omega)]; exact hless
  · rw [h.low _ (by have := hf.2.1; omega)]; exact hredo k hk

theorem Neat.opened {D E : DS} {L : Nat} {s : Int} {P : Nat → List Int} {a : Nat} {l : List Int} (h : Neat D L s P a l) (ho : Opened D E L P) : Neat E L s P a l := by
  have h2 := h.two
  have hlen := h.len
  have hf := mark_facts (sec_getD h.ok.sec (show a < D.secs.length by omega)).2 h.got
  have low : ∀ k, k < 48 → E.secs.getD k [] = D.secs.getD k [] := ho.low
  refine ⟨ho.ok, ho.mem, ho.down, by rw [ho.len]; exact hlen, h.lt, h.two, h.even, h.s1, h.s2, ?_, fun k hk => ?_, ho.pages, ?_, ?_, ?_⟩
  · rw [low a (by omega)]; exact h.got
  · rw [low _ (by have := hf.2.1; omega)]; exact h.redo k hk
  · rw [low (1 - a) (by omega)]; exact h.other
  · rw [low (1 - a) (by omega)]; exact h.differs
  · rw [low (1 - a) (by omega)]; exact h.less

/-! ### Format -/
def formatRun (D : DS) : DS × Int := andF (andW (andW (D, 0) 0 (secL 2 [])) 1 (zerosB 32))
theorem sec_zeros : Sec (zerosB 32) := ⟨length_zerosB 32, byt_zerosB 32⟩
theorem sec_two : Sec (secL 2 []) := ⟨length_secL 2 [] (by decide), byt_secL 2 [] (fun z hz => by cases hz)⟩
theorem mark_two (L : Nat) : mark L (secL 2 []) = some (2, []) := by
  unfold mark
  rw [openOut_secL 2 [] (by decide) (by decide) (by decide)]
  rw [if_pos]
  · rfl
  · refine ⟨rfl, by decide, fun z hz => ?_⟩
    have : numsOf ([] ++ zerosB (24 - ([] : List Int).length)) = [] := by decide
    rw [this] at hz
    cases hz
theorem mark_zeros (L : Nat) : mark L (zerosB 32) = none := by
  unfold mark
  have : (openOut (zerosB 32)).2.2 = 5 := by decide
  rw [if_neg]
  rintro ⟨h, _⟩
  rw [this] at h
  cases h
/-- A new device, formatted. -/
theorem format_new (n : Nat) (h : 48 < n) (hn : n ≤ 300) (L : Nat) (hL : 48 + L ≤ n) (hL2 : L ≤ 200) : (formatRun (DS.new n)).2 = 0 ∧ Neat (formatRun (DS.new n)).1 L 2 (fun _ => zerosB 32) 0 [] ∧ (formatRun (DS.new n)).1.secs.length = n := by
  have hlen : (DS.new n).secs.length = n := by simp [DS.new]
  have r0 : Run (fun k => k = 0 ∨ k = 1) (img (DS.new n)) n (DS.new n, 0) := ⟨DS.ok_new n hn, only_img rfl _, hlen, .inl ⟨rfl, rfl⟩⟩
  have r1 := r0.w (i := 0) (b := secL 2 []) (by omega) (by omega) sec_two (.inl rfl)
  have r2 := r1.w (i := 1) (b := zerosB 32) (by omega) (by omega) sec_zeros (.inr rfl)
  have r3 := r2.f
  have e1 : (DS.new n).writeE 0 (secL 2 []) = 0 := by
    unfold DS.writeE
    rw [if_neg (by rw [hlen]; omega), if_neg (by rw [sec_two.1]; decide)]
    rfl
  have hl1 : ((DS.new n).write 0 (secL 2 [])).left = -1 := by
    rw [write_eq e1]; rfl
  have hd1 := write_down e1
  have e2 : ((DS.new n).write 0 (secL 2 [])).writeE 1 (zerosB 32) = 0 := by
    unfold DS.writeE
    rw [if_neg (by rw [write_secs, hlen]; omega), if_neg (by rw [length_zerosB]; decide), if_neg (by rw [hd1]; exact Bool.false_ne_true), if_neg (by rw [hl1]; decide)]
  have hl2 : (((DS.new n).write 0 (secL 2 [])).write 1 (zerosB 32)).left = -1 := by
    rw [write_eq e2]
    unfold DS.step
    have : (((DS.new n).write 0 (secL 2 [])).put (1 : Int).toNat (zerosB 32)).left = -1 := hl1
    rw [if_neg (by rw [this]; decide), if_neg (by rw [this]; decide)]
    exact hl1
  have hd2 := write_down e2
  have x1 : andW (DS.new n, 0) 0 (secL 2 []) = ((DS.new n).write 0 (secL 2 []), 0) := by unfold andW; rw [if_pos rfl, e1]
  have x2 : andW (andW (DS.new n, 0) 0 (secL 2 [])) 1 (zerosB 32) = (((DS.new n).write 0 (secL 2 [])).write 1 (zerosB 32), 0) := by rw [x1]; unfold andW; rw [if_pos rfl, e2]
  have e3 : (((DS.new n).write 0 (secL 2 [])).write 1 (zerosB 32)).flushE = 0 := by
    unfold DS.flushE
    rw [if_neg (by rw [hd2]; exact Bool.false_ne_true), if_neg (by rw [hl2]; decide)]
  have x3 : formatRun (DS.new n) = ((((DS.new n).write 0 (secL 2 [])).write 1 (zerosB 32)).doFlush, 0) := by unfold formatRun; rw [x2]; unfold andF; rw [if_pos rfl, e3]
  have hok2 : (((DS.new n).write 0 (secL 2 [])).write 1 (zerosB 32)).Ok := by have := r2.ok; rw [x2] at this; exact this
  have hfl := fun k => doFlush_getD hok2 e3 k
  have hi : ∀ k, img (((DS.new n).write 0 (secL 2 [])).write 1 (zerosB 32)).doFlush k = if (k : Int) = 1 then zerosB 32 else if (k : Int) = 0 then secL 2 [] else img (DS.new n) k := fun k => by
    show (DS.doFlush _).secs.getD k [] = _
    rw [(hfl k).1, rd_write e2, rd_write e1]
    rfl
  have hz : ∀ k, k < n → img (DS.new n) k = zerosB 32 := fun k hk => by
    show (List.replicate n (List.replicate 32 (0 : Int))).getD k [] = _
    simp [List.getD, hk, zerosB]
  have h3 := r3.ok
  have hl3 := r3.len
  change (formatRun (DS.new n)).1.Ok at h3
  change (formatRun (DS.new n)).1.secs.length = n at hl3
  rw [x3] at h3 hl3
  rw [x3]
  have i0 : img (((DS.new n).write 0 (secL 2 [])).write 1 (zerosB 32)).doFlush 0 = secL 2 [] := by rw [hi 0, if_neg (by decide), if_pos (by decide)]
  have i1 : img (((DS.new n).write 0 (secL 2 [])).write 1 (zerosB 32)).doFlush 1 = zerosB 32 := by rw [hi 1, if_pos (by decide)]
  refine ⟨rfl, ⟨h3, (hfl 0).2.1, (hfl 0).2.2, by show 48 + L ≤ (DS.doFlush _).secs.length; rw [hl3]; exact hL, hL2, .inl rfl, by decide, by decide, by decide, ?_, fun k hk => ?_, fun i hL3 => ?_, ?_, ?_, ?_⟩, hl3⟩
  · show mark L (img _ 0) = _
    rw [i0]; exact mark_two L
  · cases hk
  · show img _ (48 + i) = _
    rw [hi, if_neg (by omega), if_neg (by omega), hz _ (by omega)]
  · show (img _ 1).take 4 = (img _ 1).drop 28
    rw [i1]; rfl
  · show (img _ 1).take 4 ≠ _
    rw [i1]
    exact fun e => side_ne_zero (n := 2 + 1) (by decide) (by decide) e.symm
  · show ∀ t l', mark L (img _ 1) = some (t, l') → t < 2
    rw [i1, mark_zeros]
    intro t l' ht
    cases ht
end Go.Proofs.YtjipnjmnkfjmhaaGreatDoor
/-! What package pages' calls come to, as plain functions; and PagesSafe as plain mathematics. (Part of the proofs over package pages.) -/
namespace Go.Proofs.YtjipnjmnkfjmhaaGreatDoor
open Go.RowKit
set_option linter.unusedVariables false

/-- Commit: the device, the stamp, the error's number. -/
def commitOut (D : DS) (s : Int) (L : Nat) (l : List (Int × List Int)) : DS × Int × Int :=
  if commitE L l ≠ 0 then (D, s, commitE L l) else if D.down then (D, s, 9) else if l = [] then (D, s, 0) else ((commitRun D s l).1, if (commitRun D s l).2 = 0 then s + 1 else s, (commitRun D s l).2)
/-- Open: the device, the stamp, the error's number. -/
def openP (D : DS) (L : Nat) : DS × Int × Int :=
  if D.down then (D, 0, 9) else if (best L (D.rd 0) (D.rd 1)).1 = 0 then (D, 0, 5) else
    ((openRun D (best L (D.rd 0) (D.rd 1)).2.1 (best L (D.rd 0) (D.rd 1)).2.2).1, if (openRun D (best L (D.rd 0) (D.rd 1)).2.1 (best L (D.rd 0) (D.rd 1)).2.2).2 = 0 then (best L (D.rd 0) (D.rd 1)).1 else 0, (openRun D (best L (D.rd 0) (D.rd 1)).2.1 (best L (D.rd 0) (D.rd 1)).2.2).2)

/-! ### the power does not go -/
def Ever (x : DS × Int) : Prop := x.1.left < 0 ∧ (x.2 = 0 → x.1.down = false) ∧ x.2 ≠ 9
theorem step_ever {D : DS} (h : D.left < 0) : D.step = D := by
  unfold DS.step
  rw [if_neg (by omega), if_neg (by omega)]
theorem Ever.w {x : DS × Int} (h : Ever x) (i : Int) (b : List Int) : Ever (andW x i b) := by
  unfold andW
  split
  · rename_i hx
    have hd := h.2.1 hx
    have he : x.1.writeE i b ≠ 9 := by
      unfold DS.writeE
      split
      · decide
      · split
        · decide
        · rw [if_neg (by rw [hd]; exact Bool.false_ne_true), if_neg (by have := h.1; omega)]
          decide
    have hl : (x.1.write i b).left < 0 ∧ (x.1.write i b).down = false := by
      unfold DS.write
      split
      · exact ⟨h.1, hd⟩
      · rw [step_ever (show (x.1.put i.toNat b).left < 0 from h.1)]
        exact ⟨h.1, hd⟩
    exact ⟨hl.1, fun _ => hl.2, he⟩
  · exact h
theorem Ever.f {x : DS × Int} (h : Ever x) : Ever (andF x) := by
  unfold andF
  split
  · rename_i hx
    have hd := h.2.1 hx
    have h1 := h.1
    have he : x.1.flushE = 0 := by
      unfold DS.flushE
      rw [if_neg (by rw [hd]; exact Bool.false_ne_true), if_neg (by omega)]
    obtain ⟨e1, e2⟩ := flush_eq he
    refine ⟨?_, fun _ => ?_, by show x.1.flushE ≠ 9; rw [he]; decide⟩
    · show x.1.doFlush.left < 0
      rw [e1, step_ever h.1]; exact h.1
    · show x.1.doFlush.down = false
      rw [e1]; exact e2
  · exact h
theorem Ever.ws {x : DS × Int} (h : Ever x) (f : Nat → Int × List Int) : ∀ m, Ever (wsF x f m)
  | 0 => h
  | m + 1 => (Ever.ws h f m).w _ _
theorem makeOut_ne (s : Int) (b : List Int) : (makeOut s b).2 ≠ 9 := by
  unfold makeOut
  split
  · show (1 : Int) ≠ 9; decide
  · split
    · show (4 : Int) ≠ 9; decide
    · show (0 : Int) ≠ 9; decide
theorem Ever.commit {D : DS} {s : Int} {l : List (Int × List Int)} (h : D.left < 0) (hd : D.down = false) : (commitRun D s l).2 ≠ 9 ∧ (commitRun D s l).1.left < 0 := by
  have h0 : Ever (D, 0) := ⟨h, fun _ => hd, by show (0 : Int) ≠ 9; decide⟩
  have h1 : Ever (commitA D ((s + 1) % 2) l) := (h0.ws _ _).f
  have h2 : Ever (commitB (commitA D ((s + 1) % 2) l) ((s + 1) % 2) (s + 1) l) := by
    unfold commitB
    split
    · rename_i hx
      split
      · exact (h1.w _ _).f
      · rename_i hm
        refine Ever.f ⟨h1.1, fun e => absurd e hm, makeOut_ne _ _⟩
    · exact h1.f
  have h3 : Ever (commitRun D s l) := (h2.ws _ _).f
  exact ⟨h3.2.2, h3.1⟩
theorem Ever.open {D : DS} {a : Nat} {l : List Int} (h : D.left < 0) (hd : D.down = false) : (openRun D a l).2 ≠ 9 ∧ (openRun D a l).1.left < 0 := by
  have h0 : Ever (D, 0) := ⟨h, fun _ => hd, by show (0 : Int) ≠ 9; decide⟩
  have h3 : Ever (openRun D a l) := (h0.ws _ _).f
  exact ⟨h3.2.2, h3.1⟩

/-! ### a device that can be opened -/
/-- Nothing is pending, and opened it is (s, P). -/
structure Ready (D : DS) (L : Nat) (s : Int) (P : Nat → List Int) : Prop where
  ok : D.Ok
  mem : D.mem = []
  down : D.down = false
  len : 48 + L ≤ D.secs.length
  rec' : Rec L (img D) s P

theorem Ready.fail {D : DS} {L : Nat} {s : Int} {P : Nat → List Int} (h : Ready D L s P) {f : Int} (hf : -9223372036854775808 ≤ f ∧ f ≤ 9223372036854775807) : Ready { D with left := f } L s P :=
  ⟨h.ok.fail hf, h.mem, h.down, h.len, h.rec'⟩
theorem Neat.ready {D : DS} {L : Nat} {s : Int} {P : Nat → List Int} {a : Nat} {l : List Int} (h : Neat D L s P a l) : Ready D L s P := ⟨h.ok, h.mem, h.down, h.len, h.again⟩
/-- Behind a crash. -/
theorem ready_crash {D : DS} {L : Nat} {s : Int} {P : Nat → List Int} (hok : D.Ok) (hlen : 48 + L ≤ D.secs.length) (keep : List Bool) (torn : Int) (c : Nat) (hr : Rec L (img (D.crash keep torn c)) s P) : Ready (D.crash keep torn c) L s P :=
  ⟨hok.crash keep torn c, rfl, rfl, by show 48 + L ≤ (crashK _ _ _ _ _ _).length; rw [length_crashK]; exact hlen, hr⟩
theorem img_crash_empty {D : DS} (hm : D.mem = []) (keep : List Bool) (torn : Int) (c : Nat) : img (D.crash keep torn c) = img D := by
  funext k
  show (crashK D.secs D.mem keep torn c D.mem.length).getD k [] = _
  rw [hm]; rfl

/-- What Open comes to. -/
theorem open_ready {D : DS} {L : Nat} {s : Int} {P : Nat → List Int} (h : Ready D L s P) :
    ((openP D L).2.2 = 0 ∧ (openP D L).2.1 = s ∧ Opened D (openP D L).1 L P ∧ Ready (openP D L).1 L s P ∧ (D.left < 0 → (openP D L).1.left < 0)) ∨
    ((openP D L).2.2 = 9 ∧ ¬ D.left < 0 ∧ (openP D L).1.Ok ∧ 48 + L ≤ (openP D L).1.secs.length ∧ ∀ keep torn c, c ≤ 32 → Ready ((openP D L).1.crash keep torn c) L s P) := by
  obtain ⟨a, l, hb, hs, h2, hl, hn, hres⟩ := open_all h.ok h.mem h.down h.len h.rec'
  have e0 : openP D L = ((openRun D a l).1, if (openRun D a l).2 = 0 then s else 0, (openRun D a l).2) := by
    unfold openP
    rw [rd_img h.mem, rd_img h.mem, hb, if_neg (by rw [h.down]; exact Bool.false_ne_true), if_neg (show ¬ s = 0 by omega)]
  rw [e0]
  rcases hres with ⟨r1, r2⟩ | ⟨r1, r2, r3, r4⟩
  · left
    refine ⟨r1, by show (if (openRun D a l).2 = 0 then s else 0) = s; rw [if_pos r1], r2, ⟨r2.ok, r2.mem, r2.down, by rw [r2.len]; exact h.len, r2.again h.rec' h.ok h.len⟩, fun hl0 => (Ever.open hl0 h.down).2⟩
  · right
    refine ⟨r1, fun hl0 => (Ever.open hl0 h.down).1 r1, r2, by rw [r3]; exact h.len, fun keep torn c hc => ready_crash r2 (by rw [r3]; exact h.len) keep torn c (r4 _ (crash_poss r2 keep torn c hc))⟩

/-- What the second Commit, and a crash behind it, come to: which of both it is. -/
theorem commit_crash {D : DS} {L : Nat} {s : Int} {P : Nat → List Int} {a : Nat} {nl : List Int} (h : Neat D L s P a nl) (hs9 : s ≤ 999) (m : List (Int × List Int)) (hb : ∀ k, k < m.length → Byt (m.getD k (0, [])).2) (keep : List Bool) (torn : Int) (c : Nat) (hc : c ≤ 32) :
    (Ready ((commitOut D s L m).1.crash keep torn c) L s P ∧ ¬ ((commitOut D s L m).2.2 = 0 ∧ m ≠ [])) ∨
    (Ready ((commitOut D s L m).1.crash keep torn c) L (s + 1) (upd P m) ∧ m ≠ [] ∧ ((commitOut D s L m).2.2 = 0 ∨ (commitOut D s L m).2.2 = 9) ∧ Valid L m) := by
  have hlen := h.len
  have hsame : Ready (D.crash keep torn c) L s P := ready_crash h.ok h.len keep torn c (by rw [img_crash_empty h.mem]; exact h.again)
  by_cases h1 : commitE L m ≠ 0
  · have e : commitOut D s L m = (D, s, commitE L m) := by unfold commitOut; rw [if_pos h1]
    rw [e]
    exact .inl ⟨hsame, fun h => h1 h.1⟩
  · have hv := valid_of (show commitE L m = 0 by omega)
    by_cases h2 : m = []
    · have e : commitOut D s L m = (D, s, 0) := by unfold commitOut; rw [if_neg h1, if_neg (by rw [h.down]; exact Bool.false_ne_true), if_pos h2]
      rw [e]
      exact .inl ⟨hsame, fun h => h.2 h2⟩
    · have e : commitOut D s L m = ((commitRun D s m).1, if (commitRun D s m).2 = 0 then s + 1 else s, (commitRun D s m).2) := by unfold commitOut; rw [if_neg h1, if_neg (by rw [h.down]; exact Bool.false_ne_true), if_neg h2]
      rw [e]
      rcases commit_all h hs9 hv hb with ⟨r1, r2, r3⟩ | ⟨r1, r2, r3, r4⟩
      · exact .inr ⟨ready_crash r2.ok r2.len keep torn c (by rw [img_crash_empty r2.mem]; exact r2.again), h2, .inl r1, hv⟩
      · have hlen' : 48 + L ≤ (commitRun D s m).1.secs.length := by rw [r3]; exact hlen
        rcases r4 _ (crash_poss r2 keep torn c hc) with h5 | h5
        · exact .inl ⟨ready_crash r2 hlen' keep torn c h5, fun h => by have h6 : (commitRun D s m).2 = 0 := h.1; rw [r1] at h6; cases h6⟩
        · exact .inr ⟨ready_crash r2 hlen' keep torn c h5, h2, .inr r1, hv⟩

/-- A Commit while the power does not go. -/
theorem commit_ever {D : DS} {L : Nat} {s : Int} {P : Nat → List Int} {a : Nat} {nl : List Int} (h : Neat D L s P a nl) (hs9 : s ≤ 999) (hl : D.left < 0) (m : List (Int × List Int)) (hb : ∀ k, k < m.length → Byt (m.getD k (0, [])).2) :
    (commitE L m ≠ 0 ∧ commitOut D s L m = (D, s, commitE L m)) ∨ (m = [] ∧ commitOut D s L m = (D, s, 0)) ∨
    (m ≠ [] ∧ Valid L m ∧ (commitOut D s L m).2 = (s + 1, 0) ∧ Neat (commitOut D s L m).1 L (s + 1) (upd P m) (1 - a) (m.map (·.1)) ∧ (commitOut D s L m).1.left < 0) := by
  by_cases h1 : commitE L m ≠ 0
  · exact .inl ⟨h1, by unfold commitOut; rw [if_pos h1]⟩
  · have hv := valid_of (show commitE L m = 0 by omega)
    by_cases h2 : m = []
    · exact .inr (.inl ⟨h2, by unfold commitOut; rw [if_neg h1, if_neg (by rw [h.down]; exact Bool.false_ne_true), if_pos h2]⟩)
    · have e : commitOut D s L m = ((commitRun D s m).1, if (commitRun D s m).2 = 0 then s + 1 else s, (commitRun D s m).2) := by unfold commitOut; rw [if_neg h1, if_neg (by rw [h.down]; exact Bool.false_ne_true), if_neg h2]
      have hev := Ever.commit (s := s) (l := m) hl h.down
      rcases commit_all h hs9 hv hb with ⟨r1, r2, r3⟩ | ⟨r1, _⟩
      · rw [e]
        refine .inr (.inr ⟨h2, hv, ?_, r2, hev.2⟩)
        show (if (commitRun D s m).2 = 0 then s + 1 else s, (commitRun D s m).2) = (s + 1, 0)
        rw [if_pos r1, r1]
      · exact absurd r1 hev.1
end Go.Proofs.YtjipnjmnkfjmhaaGreatDoor
/-! Plain mathematics: steps that stop at the first error, as the calls of package pages take them. (Part of the proofs over package pages.) -/
namespace Go.Proofs.YtjipnjmnkfjmhaaGreatDoor
open Go.RowKit
set_option linter.unusedVariables false

theorem andW_stick {x : DS × Int} (h : x.2 ≠ 0) (i : Int) (b : List Int) : andW x i b = x := by unfold andW; rw [if_neg h]
theorem andF_stick {x : DS × Int} (h : x.2 ≠ 0) : andF x = x := by unfold andF; rw [if_neg h]
theorem wsF_stick {x : DS × Int} (h : x.2 ≠ 0) (f : Nat → Int × List Int) : ∀ m, wsF x f m = x
  | 0 => rfl
  | m + 1 => by
    show andW (wsF x f m) _ _ = x
    rw [wsF_stick h f m, andW_stick h]
theorem wsF_late {x : DS × Int} {f : Nat → Int × List Int} {k : Nat} (h : (wsF x f k).2 ≠ 0) : ∀ m, k ≤ m → wsF x f m = wsF x f k
  | 0, hm => by rw [show k = 0 by omega]
  | m + 1, hm => by
    by_cases e : k = m + 1
    · rw [e]
    · show andW (wsF x f m) _ _ = _
      rw [wsF_late h m (by omega), andW_stick h]
theorem wsF_congr {x : DS × Int} {f g : Nat → Int × List Int} : ∀ m, (∀ j, j < m → f j = g j) → wsF x f m = wsF x g m
  | 0, _ => rfl
  | m + 1, h => by
    show andW (wsF x f m) _ _ = andW (wsF x g m) _ _
    rw [wsF_congr m (fun j hj => h j (by omega)), h m (by omega)]
theorem andW_ok {x : DS × Int} (h : x.2 = 0) (i : Int) (b : List Int) : andW x i b = (x.1.write i b, x.1.writeE i b) := by unfold andW; rw [if_pos h]
theorem andF_ok {x : DS × Int} (h : x.2 = 0) : andF x = (x.1.doFlush, x.1.flushE) := by unfold andF; rw [if_pos h]
theorem pair_ok {x : DS × Int} (h : x.2 = 0) : x = (x.1, 0) := by rw [← h]

/-- Nothing is written while the power is gone. -/
theorem wsF_down {D : DS} {f : Nat → Int × List Int} (hd : D.down = true) {m : Nat} (hm : 0 < m) (h1 : 0 ≤ (f 0).1) (h2 : (f 0).1 < D.secs.length) (h3 : (f 0).2.length = 32) : wsF (D, 0) f m = (D, 9) := by
  have e : wsF (D, 0) f 1 = (D, 9) := by
    show andW (D, 0) _ _ = _
    rw [andW_ok rfl]
    show (D.write _ _, D.writeE _ _) = _
    have e1 : D.write (f 0).1 (f 0).2 = D := by unfold DS.write; rw [if_pos (.inr (.inr (.inr hd)))]
    have e2 : D.writeE (f 0).1 (f 0).2 = 9 := by
      unfold DS.writeE
      rw [if_neg (by omega), if_neg (by omega), if_pos hd]
    rw [e1, e2]
  rw [wsF_late (k := 1) (by rw [e]; show (9 : Int) ≠ 0; decide) m hm, e]

/-- Commit, as the code does it: the mark is made ahead. -/
theorem commitOut_run {D : DS} {s : Int} {L : Nat} {l : List (Int × List Int)} (hv : commitE L l = 0) (hl : l ≠ []) (hL : 48 ≤ D.secs.length) (hs : (s + 1) % 2 = 0 ∨ (s + 1) % 2 = 1) :
    commitOut D s L l = ((commitRun D s l).1, if (commitRun D s l).2 = 0 then s + 1 else s, (commitRun D s l).2) := by
  unfold commitOut
  rw [if_neg (by rw [hv]; exact fun h => h rfl)]
  by_cases hd : D.down = true
  · rw [if_pos hd]
    have hval := valid_of hv
    have hlen := hval.len
    have hpos : 0 < l.length := by cases l with | nil => exact absurd rfl hl | cons _ _ => simp
    have hb := hval.body 0 hpos
    have e1 : commitA D ((s + 1) % 2) l = (D, 9) := by
      unfold commitA
      rw [wsF_down hd hpos (by dsimp only; omega) (by dsimp only; omega) hb]
      exact andF_stick (by show (9 : Int) ≠ 0; decide)
    have e2 : commitB (D, 9) ((s + 1) % 2) (s + 1) l = (D, 9) := by
      unfold commitB
      rw [if_neg (by show ¬ (9 : Int) = 0; decide)]
      exact andF_stick (by show (9 : Int) ≠ 0; decide)
    have e3 : commitRun D s l = (D, 9) := by
      unfold commitRun
      rw [e1, e2]
      unfold commitC
      rw [wsF_stick (by show (9 : Int) ≠ 0; decide)]
      exact andF_stick (by show (9 : Int) ≠ 0; decide)
    rw [e3]
    rfl
  · rw [if_neg hd, if_neg hl]

theorem i64_and_one (n : Int) (h0 : 0 ≤ n) (h1 : n ≤ 4294967296) : bits .and .i64 n 1 = n % 2 := by
  obtain ⟨N, rfl⟩ := Int.eq_ofNat_of_zero_le h0
  have h2 : N &&& 1 = N % 2 := Nat.and_one_is_mod N
  show IntKind.i64.wrap ((BitVec.ofInt 64 (N : Int) &&& BitVec.ofInt 64 ((1 : Nat) : Int)).toNat : Int) = _
  rw [BitVec.toNat_and, ofInt_u64 N (by omega), ofInt_u64 1 (by omega), IntKind.wrap_i64, h2]
  omega
end Go.Proofs.YtjipnjmnkfjmhaaGreatDoor
