/-
  Contracts of the small functions of package device. (Part of the proofs over package device.)
-/
import Derived.Test.YtnpdejlbknjhnaaDoorDevRep
import Derived.Test.YtnpdejlbknjhnaaDoorErrV
import Derived.BigQuiet
import Derived.WalkLawsBesides
import Derived.Deep.WholeRow
namespace Go.Proofs.YtnpdejlbknjhnaaDoor
open Go.RowKit
set_option linter.unusedVariables false

theorem info_sec : (Tryd.prog.info? 74).map (fun i => (i.zero, i.size)) = some (some (sv (zerosB 32)), 32) := by kernel_rfl
theorem size_sec : (Tryd.prog.info? 74).map (·.size) = some 32 := by kernel_rfl
theorem size_u8 : (Tryd.prog.info? 5).map (·.size) = some 1 := by kernel_rfl
theorem zero_sec (w : World) : (zeroValue 74).run Tryd.prog w = .ok (sv (zerosB 32)) w := (zero_of_info info_sec).1 w
theorem all_oneCell (l : List Int) : (cellsB l).all (·.oneCell') = true := by
  rw [Array.all_eq_true]
  intro i hi
  simp [cellsB] at hi ⊢
  rfl
/-- A whole sector is stored into a new variable. -/
theorem store_new (w : World) (l : List Int) (hl : l.length = 32) :
    (storeCells ⟨w.heap.size, 0, none⟩ (cellsB l).toList 0).run Tryd.prog (w.alloc (.cells #[.int .u8 0, .int .u8 0, .int .u8 0, .int .u8 0, .int .u8 0, .int .u8 0, .int .u8 0, .int .u8 0, .int .u8 0, .int .u8 0, .int .u8 0, .int .u8 0, .int .u8 0, .int .u8 0, .int .u8 0, .int .u8 0, .int .u8 0, .int .u8 0, .int .u8 0, .int .u8 0, .int .u8 0, .int .u8 0, .int .u8 0, .int .u8 0, .int .u8 0, .int .u8 0, .int .u8 0, .int .u8 0, .int .u8 0, .int .u8 0, .int .u8 0, .int .u8 0] 74)) = .ok () (w.alloc (.cells (cellsB l) 74)) :=
  run_storeCells_new w 74 #[.int .u8 0, .int .u8 0, .int .u8 0, .int .u8 0, .int .u8 0, .int .u8 0, .int .u8 0, .int .u8 0, .int .u8 0, .int .u8 0, .int .u8 0, .int .u8 0, .int .u8 0, .int .u8 0, .int .u8 0, .int .u8 0, .int .u8 0, .int .u8 0, .int .u8 0, .int .u8 0, .int .u8 0, .int .u8 0, .int .u8 0, .int .u8 0, .int .u8 0, .int .u8 0, .int .u8 0, .int .u8 0, .int .u8 0, .int .u8 0, .int .u8 0, .int .u8 0] (cellsB l) (by rw [size_cellsB, hl]; exact size_sec) (by rw [size_cellsB, hl]; rfl) (all_oneCell l)

/-- 'copy' as one step of a region that draws its order. -/
theorem step_copy_at {P : Program} {ops : Array Oper} {o : Oper} {a : Act} {w : World} {K : Act → World → Prop} {Q : Exit → Act → World → Prop} {E : Prop} (hgd : o.guard = none) (d s : Operand) (dT sT : TypeId)
    (ho : o.op = .call { callee := .builtin .copy, args := #[d, s], argTypes := #[dT, sT] }) (hu : P.underlying dT = some (.slice 5)) (hsz : (P.info? 5).map (·.size) = some 1)
    (g t off dCap : Nat) (sp : Option Addr) (sCap n : Nat) (z l : List Int) (hn : l.length = n) (hd : a.eval d = .slice (some ⟨g, off, none⟩) n dCap) (hs : a.eval s = .slice sp n sCap)
    (hz : off + l.length ≤ z.length) (hg : RowT w g t z) (hb : Bs w sp sCap l) (h : K (a.put o.dst (.int .i64 n)) (rowW w g (splice z off l))) :
    if Region.wanted o (yielded ops a.tmps) = true then Oper.wp P o a w K Q else E := by
  have hw : Region.wanted o (yielded ops a.tmps) = true := by simp [Region.wanted, hgd]
  rw [if_pos hw]
  subst hn
  have hrun := run_copy_at (P := P) w dT sT o.type hu hsz (dCap := dCap) hz hg hb
  unfold Oper.wp
  simp [execOp, ho, resolve, invoke, builtin, hd, hs, hrun, Result.andThen]
  exact h

/-- .. and in a walk. -/
theorem wpList_copy_at {P : Program} {ops : Array Oper} {rest : List Oper} {o : Oper} {a : Act} {w : World} {Q : Exit → Act → World → Prop} (hgd : o.guard = none) (d s : Operand) (dT sT : TypeId)
    (ho : o.op = .call { callee := .builtin .copy, args := #[d, s], argTypes := #[dT, sT] }) (hu : P.underlying dT = some (.slice 5)) (hsz : (P.info? 5).map (·.size) = some 1)
    (g t off dCap : Nat) (sp : Option Addr) (sCap n : Nat) (z l : List Int) (hn : l.length = n) (hd : a.eval d = .slice (some ⟨g, off, none⟩) n dCap) (hs : a.eval s = .slice sp n sCap)
    (hz : off + l.length ≤ z.length) (hg : RowT w g t z) (hb : Bs w sp sCap l) (h : wpList P ops Q rest (a.put o.dst (.int .i64 n)) (rowW w g (splice z off l))) :
    wpList P ops Q (o :: rest) a w := by
  refine wpList_plain hgd fun K hK => ?_
  subst hn
  have hrun := run_copy_at (P := P) w dT sT o.type hu hsz (dCap := dCap) hz hg hb
  unfold Oper.wp
  simp [execOp, ho, resolve, invoke, builtin, hd, hs, hrun, Result.andThen]
  exact hK _ _ h

section
variable {w : World} {p sb bm : Nat} {pv : Value} {S : Nat → Prop} {D : DS}

set_option maxRecDepth 100000 in
theorem bring_any (i n : Nat) (b : List Int) (h : DevAt w p sb bm pv S D) (hi : i < D.secs.length) (hn : n ≤ 32) (hb : D.mem.lookup i = some b) :
    Calls Tryd.prog 33 #[.pointer (some ⟨p, 0, none⟩), .int .i64 i, .int .i64 n] w fun e w' => e = .returned (.tuple #[]) ∧ DevAt w' p sb bm pv S { D with secs := D.secs.set i (b.take n ++ (D.secs.getD i []).drop n) } ∧ Turn S S w w' := by
  have hlen := h.ok.len
  have c0 := h.c0
  have c1 := h.c1
  have hbs : Sec b := (h.ok.mem _ (lookup_mem hb)).2
  have hlook := h.mem.look (E := 74) Tryd.underlying3 Tryd.underlying65 (zero_sec w) false (i := i) (by omega)
  have hmv : memV D.mem i = b := by unfold memV; rw [hb]; rfl
  rw [hmv] at hlook
  simp only [Bool.false_eq_true, if_false] at hlook
  unfold sv at hlook
  have hsz : (cellsB b).size = 32 := by rw [size_cellsB]; exact hbs.1
  have hst := store_new w b hbs.1
  have hl32 : ∀ s ∈ D.secs, s.length = 32 := fun s hs => (h.ok.sec s hs).1
  have hlb : (b.take n).length = n := by simp [hbs.1]; omega
  have hfit : i * 32 + (b.take n).length ≤ D.secs.flatten.length := by rw [hlb, flat_len _ hl32]; omega
  have hnew : RowT (w.alloc (.cells (cellsB b) 74)) w.heap.size 74 b := heap_alloc_new _ _
  have h1 := h.alloc (.cells (cellsB b) 74)
  have c0' := h1.c0
  have hrow := h1.sec
  have hsrc : Bs (w.alloc (.cells (cellsB b) 74)) (some ⟨w.heap.size, 0, none⟩) 32 (b.take n) := hnew.bs hbs.2 (by rw [hbs.1]; decide) 0 n 32 (by rw [hbs.1]; omega) hn
  have H := hide h1
  clear h hb hmv h1
  go_enter Tryd.func33, Tryd.ntmps33
  go_wp2_with fail
  have e0 : (i : Int) < (D.secs.length : Int) := by omega
  have e1 : (0 : Int) ≤ (i : Int) := by omega
  have e2 : (n : Int) ≤ 32 := by omega
  have e3 : (0 : Int) ≤ (n : Int) := by omega
  go_region_law (refine step_copy_at rfl (.tmp 20) (.tmp 22) 35 35 rfl Tryd.underlying35 size_u8 sb 74 (i * 32) 32 (some ⟨w.heap.size, 0, none⟩) 32 n D.secs.flatten (b.take n) hlb rfl rfl hfit hrow hsrc ?_)
  go_end0
  have h1 := unhide H
  have es := flat_splice D.secs i (b.take n) hl32 hi (by omega)
  rw [hlb] at es
  refine ⟨rfl, ?_, ?_⟩
  · rw [es]
    exact h1.drew.setSecs _ (by simp) (fun s hs => by
      rcases mem_set_or hs with h2 | h2
      · exact h1.ok.sec s h2
      · rw [h2]; exact sec_torn (sec_getD h1.ok.sec hi) hbs n)
  · exact (Turn.alloc S w (.cells (cellsB b) 74)).trans ((Turn.drew S _).trans (Turn.row _ _ h1.ins))

theorem forget_any (h : DevAt w p sb bm pv S D) :
    Calls Tryd.prog 34 #[.pointer (some ⟨p, 0, none⟩)] w fun e w' => e = .returned (.tuple #[]) ∧ DevAt w' p sb bm (.slice none 0 0) S { D with mem := [] } ∧ Turn S S w w' := by
  have c1 := h.c1
  obtain ⟨w1, hrun, hm, ht⟩ := h.mem.clear (E := 74) Tryd.underlying65
  have e : w1.heap[p]? = w.heap[p]? := ht.grown.block p (h.lt p h.inp) (fun e => h.npm.symm (Option.some.inj e))
  have c2 : w1.cell? ⟨p, 2, none⟩ = some pv := (World.cell?_of_block (a := ⟨p, 2, none⟩) e).trans h.c2
  have f2 : w1.frozen? ⟨p, 2, none⟩ = false := (World.frozen?_of_block (a := ⟨p, 2, none⟩) e).trans (h.fr 2)
  have H := hide h
  have HM := hide hm
  have HT := hide ht
  clear h hm ht e
  go_enter Tryd.func34, Tryd.ntmps34
  go_wp2
  go_end0
  exact ⟨rfl, (unhide H).forget (unhide HM) (unhide HT), (Turn.map (unhide HT) (unhide H).inm).trans (Turn.setCell _ _ (unhide H).inp)⟩

theorem step_any (h : DevAt w p sb bm pv S D) :
    Calls Tryd.prog 30 #[.pointer (some ⟨p, 0, none⟩)] w fun e w' => e = .returned (errV (if D.left = 0 then 9 else 0)) ∧ DevAt w' p sb bm pv S D.step ∧ Turn S S w w' := by
  have c3 := h.c3
  have c4 := h.c4
  have f3 := h.fr 3
  have f4 := h.fr 4
  have hl := h.ok.left
  have H := hide h
  clear h
  unfold DS.step
  by_cases h0 : D.left = 0
  · rw [if_pos h0, if_pos h0]
    rw [h0] at c3
    have H0 := hide h0
    clear h0
    go_enter Tryd.func30, Tryd.ntmps30
    go_wp2
    go_ret
    exact ⟨rfl, (unhide H).setDown true, Turn.setCell _ _ (unhide H).inp⟩
  · rw [if_neg h0, if_neg h0]
    by_cases h1 : 0 < D.left
    · rw [if_pos h1]
      go_enter Tryd.func30, Tryd.ntmps30
      go_wp2
      go_ret
      exact ⟨rfl, (unhide H).setLeft _ (by omega), Turn.setCell _ _ (unhide H).inp⟩
    · rw [if_neg h1]
      go_enter Tryd.func30, Tryd.ntmps30
      go_wp2
      go_ret
      exact ⟨rfl, unhide H, Turn.refl _ _⟩

theorem fail_any (n : Int) (hn : -9223372036854775808 ≤ n ∧ n ≤ 9223372036854775807) (h : DevAt w p sb bm pv S D) :
    Calls Tryd.prog 12 #[.pointer (some ⟨p, 0, none⟩), .int .i64 n] w fun e w' => e = .returned (.tuple #[]) ∧ DevAt w' p sb bm pv S { D with left := n } ∧ Turn S S w w' := by
  have c3 := h.c3
  have f3 := h.fr 3
  have H := hide h
  clear h
  go_enter Tryd.func12, Tryd.ntmps12
  go_wp2
  go_end0
  exact ⟨rfl, (unhide H).setLeft _ hn, Turn.setCell _ _ (unhide H).inp⟩

theorem down_any (h : DevAt w p sb bm pv S D) :
    Calls Tryd.prog 20 #[.pointer (some ⟨p, 0, none⟩)] w fun e w' => e = .returned (.bool D.down) ∧ w = w' := by
  have c4 := h.c4
  clear h
  go_enter Tryd.func20, Tryd.ntmps20
  go_wp2
  go_ret
  exact ⟨rfl, rfl⟩

/-- There is such a sector. -/
def hasB (n : Nat) (i : Int) : Bool := decide (0 ≤ i ∧ i < n)
theorem has_any (i : Int) (h : DevAt w p sb bm pv S D) :
    Calls Tryd.prog 28 #[.pointer (some ⟨p, 0, none⟩), .int .i64 i] w fun e w' => e = .returned (.bool (hasB D.secs.length i)) ∧ w = w' := by
  have c0 := h.c0
  have hlen := h.ok.len
  clear h
  unfold hasB
  by_cases h0 : 0 ≤ i
  · by_cases h1 : i < D.secs.length
    · rw [decide_eq_true ⟨h0, h1⟩]
      go_enter Tryd.func28, Tryd.ntmps28
      go_wp2
      go_ret
      exact ⟨rfl, rfl⟩
    · rw [decide_eq_false (fun h => h1 h.2)]
      go_enter Tryd.func28, Tryd.ntmps28
      go_wp2
      go_ret
      exact ⟨rfl, rfl⟩
  · rw [decide_eq_false (fun h => h0 h.1)]
    go_enter Tryd.func28, Tryd.ntmps28
    go_wp2
    go_ret
    exact ⟨rfl, rfl⟩
end
end Go.Proofs.YtnpdejlbknjhnaaDoor
