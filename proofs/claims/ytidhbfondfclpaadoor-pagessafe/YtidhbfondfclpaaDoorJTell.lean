/-
  Joined by program: TellAs; Told; ErrSame; RowSt. (Parts of the proofs over the packages of the program.)
-/
import Derived.Test.YtidhbfondfclpaaDoorProg
import Derived.Test.YtidhbfondfclpaaDoorJDev
import Derived.WalkKit
import Derived.LaidEql
import Derived.Stop.Asserts
import Derived.RowKitTokens
import Derived.Test.YtidhbfondfclpaaDoorJPages
/-! The contract of errors.As at an api.Errno. (Part of the proofs of laws that ask which error was told.) -/
namespace Go.Proofs.YtidhbfondfclpaaDoor
open Go.RowKit Go.Extern.Stop Go.Stop Go.Extern
set_option linter.unusedVariables false

/-! ### Closed facts on the model's entries for internal/reflectlite at this program's numbers -/
theorem rl_valueOfP (t : Addr) (w : World) : (ReflectliteValue.unpack (.iface 111 (.pointer (some t)))).run Tryd.prog w
    = .ok (.agg #[.pointer (some ⟨1, 111, none⟩), .pointer (some ⟨w.heap.size, 0, none⟩), .int .u64 150]) (w.alloc (.cells #[.pointer (some t)] 111)) := by kernel_rfl
theorem rl_typeP (a : Addr) (w : World) : (ReflectliteValue.methodAny (ReflectliteValue.valueError "reflectlite.Value.Type" 0) (fun t _ _ _ => ReflectliteType.toType t) #[.agg #[.pointer (some ⟨1, 111, none⟩), .pointer (some a), .int .u64 150]]).run Tryd.prog w
    = .ok (.iface 136 (.agg #[.pointer (some ⟨1, 111, none⟩)])) w := by kernel_rfl
theorem rl_methodKind (h : Value) (w : World) : (Go.method 277 136 (.agg #[h]) "Kind").run Tryd.prog w = .ok (96, h) w := by kernel_rfl
theorem rl_kindP (w : World) : ((ReflectliteType.abiMethod fun t => (fun a : Nat => Value.int IntKind.u8 (a : Int)) <$> Rtype.kind t) #[.pointer (some ⟨1, 111, none⟩)]).run Tryd.prog w = .ok (.int .u8 22) w := by kernel_rfl
theorem rl_kindE (w : World) : ((ReflectliteType.abiMethod fun t => (fun a : Nat => Value.int IntKind.u8 (a : Int)) <$> Rtype.kind t) #[.pointer (some ⟨1, 60, none⟩)]).run Tryd.prog w = .ok (.int .u8 2) w := by kernel_rfl
theorem rl_one (motive : Array Value → Sort 1) (v : Value) (h1 : (v : Value) → motive #[v]) (h2 : (x : Array Value) → motive x) : ReflectliteValue.method.match_2 motive #[v] h1 h2 = h1 v := rfl
theorem rl_two (motive : Array Value → Sort 1) (v x : Value) (h1 : (v x : Value) → motive #[v, x]) (h2 : (x : Array Value) → motive x) : ReflectliteValue.set.match_3 motive #[v, x] h1 h2 = h1 v x := rfl
theorem rl_partsP (a : Addr) (w : World) : (ReflectliteValue.parts (.agg #[.pointer (some ⟨1, 111, none⟩), .pointer (some a), .int .u64 150])).run Tryd.prog w = .ok (some (111, a, 150)) w := by kernel_rfl
theorem rl_isNilP (a p : Addr) (W : World) (ha : W.cell? a = some (.pointer (some p))) :
    (ReflectliteValue.method (ReflectliteValue.valueError "reflectlite.Value.IsNil" 0) ReflectliteValue.isNil #[.agg #[.pointer (some ⟨1, 111, none⟩), .pointer (some a), .int .u64 150]]).run Tryd.prog W = .ok (.bool false) W := by
  delta ReflectliteValue.method
  rw [rl_one]
  simp only [Sem.run_bind, rl_partsP, Result.andThen]
  simp [ReflectliteValue.isNil, loadVar, isAgg, underlying, Tryd.underlying111, ha, Result.andThen]
theorem rl_methodElem (h : Value) (w : World) : (Go.method 277 136 (.agg #[h]) "Elem").run Tryd.prog w = .ok (106, .agg #[h]) w := by kernel_rfl
theorem rl_methodImplements (h : Value) (w : World) : (Go.method 277 136 (.agg #[h]) "Implements").run Tryd.prog w = .ok (107, .agg #[h]) w := by kernel_rfl
theorem rl_methodAssignableTo (h : Value) (w : World) : (Go.method 277 136 (.agg #[h]) "AssignableTo").run Tryd.prog w = .ok (104, .agg #[h]) w := by kernel_rfl
theorem rl_elemP (w : World) : (ReflectliteType.method ReflectliteType.elem #[.agg #[.pointer (some ⟨1, 111, none⟩)]]).run Tryd.prog w = .ok (.iface 136 (.agg #[.pointer (some ⟨1, 60, none⟩)])) w := by kernel_rfl
theorem rl_implementsE (w : World) : (ReflectliteType.relation "Implements" ReflectliteType.implements_ #[.agg #[.pointer (some ⟨1, 60, none⟩)], .iface 136 (.agg #[.pointer (some ⟨1, 25, none⟩)])]).run Tryd.prog w = .ok (.bool true) w := by kernel_rfl
theorem rl_typeOfE (v : Value) (w : World) : (ReflectliteType.typeOf #[.iface 60 v]).run Tryd.prog w = .ok (.iface 136 (.agg #[.pointer (some ⟨1, 60, none⟩)])) w := by kernel_rfl
theorem rl_assignableE (w : World) : (ReflectliteType.relation "AssignableTo" ReflectliteType.assignableTo #[.agg #[.pointer (some ⟨1, 60, none⟩)], .iface 136 (.agg #[.pointer (some ⟨1, 60, none⟩)])]).run Tryd.prog w = .ok (.bool true) w := by kernel_rfl
theorem rl_valueOfE (k : Int) (w : World) : (ReflectliteValue.unpack (.iface 60 (.int .i64 k))).run Tryd.prog w
    = .ok (.agg #[.pointer (some ⟨1, 60, none⟩), .pointer (some ⟨w.heap.size, 0, none⟩), .int .u64 130]) (w.alloc (.cells #[.int .i64 k] 60)) := by kernel_rfl
theorem rl_elemOfP (w : World) : (Rtype.elem? 111).run Tryd.prog w = .ok (some 60) w := by kernel_rfl
theorem rl_mkE (p : Addr) (w : World) : (ReflectliteValue.mk 60 p ReflectliteValue.flagAddr).run Tryd.prog w = .ok (.agg #[.pointer (some ⟨1, 60, none⟩), .pointer (some p), .int .u64 386]) w := by kernel_rfl
theorem rl_elemVP (a p : Addr) (W : World) (ha : W.cell? a = some (.pointer (some p))) :
    (ReflectliteValue.method (ReflectliteValue.valueError "reflectlite.Value.Elem" 0) ReflectliteValue.elem #[.agg #[.pointer (some ⟨1, 111, none⟩), .pointer (some a), .int .u64 150]]).run Tryd.prog W
      = .ok (.agg #[.pointer (some ⟨1, 60, none⟩), .pointer (some p), .int .u64 386]) W := by
  delta ReflectliteValue.method
  rw [rl_one]
  simp only [Sem.run_bind, rl_partsP, Result.andThen]
  simp [ReflectliteValue.elem, loadVar, isAgg, underlying, Tryd.underlying111, ha, Result.andThen, rl_elemOfP, rl_mkE]
theorem rl_partsEa (a : Addr) (w : World) : (ReflectliteValue.parts (.agg #[.pointer (some ⟨1, 60, none⟩), .pointer (some a), .int .u64 386])).run Tryd.prog w = .ok (some (60, a, 386)) w := by kernel_rfl
theorem rl_partsE (a : Addr) (w : World) : (ReflectliteValue.parts (.agg #[.pointer (some ⟨1, 60, none⟩), .pointer (some a), .int .u64 130])).run Tryd.prog w = .ok (some (60, a, 130)) w := by kernel_rfl
theorem rl_directE (w : World) : (Rtype.directlyAssignable 60 60).run Tryd.prog w = .ok true w := by kernel_rfl
theorem rl_setE (ta b : Addr) (k : Int) (old : Value) (W : World) (hb : W.cell? b = some (.int .i64 k)) (ht : W.cell? ta = some old) (hf : W.frozen? ta = false) :
    (ReflectliteValue.set #[.agg #[.pointer (some ⟨1, 60, none⟩), .pointer (some ta), .int .u64 386], .agg #[.pointer (some ⟨1, 60, none⟩), .pointer (some b), .int .u64 130]]).run Tryd.prog W
      = .ok (.tuple #[]) (W.setCell ta (.int .i64 k)) := by
  delta ReflectliteValue.set
  rw [rl_two]
  simp only [Sem.run_bind, rl_partsEa, rl_partsE, Result.andThen]
  simp [ReflectliteValue.flagAddr, loadVar, isAgg, underlying, Tryd.underlying60, hb, Result.andThen, rl_directE, storeVar, Value.cells, storeCells, Addr.add]
  rw [run_store Tryd.prog W ta _ _ (by rfl)]
  simp [ht, hf]

/-- package errors' variable errorType holds the handle of the type error. -/
def ErrT (w : World) : Prop := w.cell? ⟨0, 0, none⟩ = some (.iface 136 (.agg #[.pointer (some ⟨1, 25, none⟩)]))
theorem ErrT.below {w w' : World} (h : ErrT w) (hb : Below w.heap.size w w') : ErrT w' := by
  unfold ErrT
  rw [hb.cell (block_lt_of_cell h)]; exact h

set_option maxRecDepth 100000 in
set_option maxHeartbeats 4000000 in
theorem as_errno (k : Int) (t : Addr) (old : Value) (w : World) (hg : w.cell? ⟨0, 0, none⟩ = some (.iface 136 (.agg #[.pointer (some ⟨1, 25, none⟩)]))) (ht0 : w.cell? t = some old) (hf0 : w.frozen? t = false) :
    Calls Tryd.prog 60 #[.iface 60 (.int .i64 k), .iface 111 (.pointer (some t))] w fun ev w' => ev = .returned (.bool true) ∧ w' = ((((w.alloc (.cells #[.pointer (some t)] 111)).alloc (.cells #[.pointer (some ⟨1, 111, none⟩), .pointer (some ⟨w.heap.size, 0, none⟩), .int .u64 150] 122)).alloc (.cells #[.pointer (some ⟨1, 111, none⟩), .pointer (some ⟨w.heap.size, 0, none⟩), .int .u64 150] 122)).alloc (.cells #[.int .i64 k] 60)).setCell t (.int .i64 k) := by
  have h6 := @run_callFunc_extern Tryd.prog 70 _ (fun args => ReflectliteValue.unpack (args.getD 0 (.tuple #[]))) Tryd.func70 (by kernel_rfl) (by kernel_rfl) (by kernel_rfl) (by kernel_rfl)
  have h7 := @run_callFunc_extern Tryd.prog 71 _ (ReflectliteValue.methodAny (ReflectliteValue.valueError "reflectlite.Value.Type" 0) (fun t _ _ _ => ReflectliteType.toType t)) Tryd.func71 (by kernel_rfl) (by kernel_rfl) (by kernel_rfl) (by kernel_rfl)
  have h8 := @run_callFunc_extern Tryd.prog 72 _ (ReflectliteValue.method (ReflectliteValue.valueError "reflectlite.Value.IsNil" 0) ReflectliteValue.isNil) Tryd.func72 (by kernel_rfl) (by kernel_rfl) (by kernel_rfl) (by kernel_rfl)
  have h27 := @run_callFunc_extern Tryd.prog 96 _ (ReflectliteType.abiMethod fun t => do pure (.int .u8 (← Rtype.kind t))) Tryd.func96 (by kernel_rfl) (by kernel_rfl) (by kernel_rfl) (by kernel_rfl)
  have h37 := @run_callFunc_extern Tryd.prog 106 _ (ReflectliteType.method ReflectliteType.elem) Tryd.func106 (by kernel_rfl) (by kernel_rfl) (by kernel_rfl) (by kernel_rfl)
  have h38 := @run_callFunc_extern Tryd.prog 107 _ (ReflectliteType.relation "Implements" ReflectliteType.implements_) Tryd.func107 (by kernel_rfl) (by kernel_rfl) (by kernel_rfl) (by kernel_rfl)
  have h10 := @run_callFunc_extern Tryd.prog 79 _ ReflectliteType.typeOf Tryd.func79 (by kernel_rfl) (by kernel_rfl) (by kernel_rfl) (by kernel_rfl)
  have h35 := @run_callFunc_extern Tryd.prog 104 _ (ReflectliteType.relation "AssignableTo" ReflectliteType.assignableTo) Tryd.func104 (by kernel_rfl) (by kernel_rfl) (by kernel_rfl) (by kernel_rfl)
  have h11 := @run_callFunc_extern Tryd.prog 80 _ (ReflectliteValue.method (ReflectliteValue.valueError "reflectlite.Value.Elem" 0) ReflectliteValue.elem) Tryd.func80 (by kernel_rfl) (by kernel_rfl) (by kernel_rfl) (by kernel_rfl)
  have h12 := @run_callFunc_extern Tryd.prog 81 _ ReflectliteValue.set Tryd.func81 (by kernel_rfl) (by kernel_rfl) (by kernel_rfl) (by kernel_rfl)
  have tO := rl_typeOfE
  have mA := rl_methodAssignableTo
  have a25 := rl_assignableE
  have v25 := rl_valueOfE
  have f6 := rl_valueOfP
  have f7 := rl_typeP
  have mK := rl_methodKind
  have mE := rl_methodElem
  have mI := rl_methodImplements
  have k27 := rl_kindP
  have k25 := rl_kindE
  have e27 := rl_elemP
  have i25 := rl_implementsE
  have n8 := rl_isNilP ⟨w.heap.size, 0, none⟩ t ((w.alloc (.cells #[.pointer (some t)] 111)).alloc (.cells #[.pointer (some ⟨1, 111, none⟩), .pointer (some ⟨w.heap.size, 0, none⟩), .int .u64 150] 122)) (by simp)
  have hlt : 0 < w.heap.size := block_lt_of_cell hg
  have hg2 : ((w.alloc (.cells #[.pointer (some t)] 111)).alloc (.cells #[.pointer (some ⟨1, 111, none⟩), .pointer (some ⟨w.heap.size, 0, none⟩), .int .u64 150] 122)).cell? ⟨0, 0, none⟩ = some (.iface 136 (.agg #[.pointer (some ⟨1, 25, none⟩)])) := by
    rw [World.cell?_alloc_lt _ _ ⟨0, 0, none⟩ (by simp; try omega), World.cell?_alloc_lt _ _ ⟨0, 0, none⟩ hlt]; exact hg
  have htl : t.block < w.heap.size := block_lt_of_cell ht0
  have el := rl_elemVP ⟨w.heap.size, 0, none⟩ t (((w.alloc (.cells #[.pointer (some t)] 111)).alloc (.cells #[.pointer (some ⟨1, 111, none⟩), .pointer (some ⟨w.heap.size, 0, none⟩), .int .u64 150] 122)).alloc (.cells #[.pointer (some ⟨1, 111, none⟩), .pointer (some ⟨w.heap.size, 0, none⟩), .int .u64 150] 122)) (by rw [World.cell?_alloc_lt _ _ ⟨w.heap.size, 0, none⟩ (by simp; omega)]; simp)
  have st := rl_setE t ⟨w.heap.size + 1 + 1 + 1, 0, none⟩ k old ((((w.alloc (.cells #[.pointer (some t)] 111)).alloc (.cells #[.pointer (some ⟨1, 111, none⟩), .pointer (some ⟨w.heap.size, 0, none⟩), .int .u64 150] 122)).alloc (.cells #[.pointer (some ⟨1, 111, none⟩), .pointer (some ⟨w.heap.size, 0, none⟩), .int .u64 150] 122)).alloc (.cells #[.int .i64 k] 60))
    (by rw [World.cell?_alloc_at _ _ _ _ (by simp)]; rfl)
    (by rw [World.cell?_alloc_lt _ _ t (by simp; omega), World.cell?_alloc_lt _ _ t (by simp; omega), World.cell?_alloc_lt _ _ t (by simp; omega), World.cell?_alloc_lt _ _ t htl]; exact ht0)
    (by rw [World.frozen?_alloc_old _ _ t (by simp; omega), World.frozen?_alloc_old _ _ t (by simp; omega), World.frozen?_alloc_old _ _ t (by simp; omega), World.frozen?_alloc_old _ _ t (Nat.ne_of_lt htl)]; exact hf0)
  go_enter Tryd.func60, Tryd.ntmps60
  go_wp2
  refine wp_loop_rounds 1 ?_
  rw [rounds_succ]
  go_wp2
  go_ret
  exact ⟨rfl, rfl⟩
end Go.Proofs.YtidhbfondfclpaaDoor
/-! The contracts of plain.Told and of vaultsame.Error. (Part of the proofs of laws that ask which error was told.) -/
namespace Go.Proofs.YtidhbfondfclpaaDoor
open Go.RowKit
set_option linter.unusedVariables false

/-- plain.Told of nil. -/
theorem told_nil (w : World) : Calls Tryd.prog 39 #[.nilIface] w fun e w' => e = .returned (.int .i64 0) ∧ w = w' := by
  go_enter Tryd.func39, Tryd.ntmps39
  go_wp2
  go_ret
  exact ⟨rfl, rfl⟩

set_option maxRecDepth 100000 in
set_option maxHeartbeats 1000000 in
/-- plain.Told of an error's number. -/
theorem told_errno (k : Int) (w : World) (hg : ErrT w) : Calls Tryd.prog 39 #[.iface 60 (.int .i64 k)] w fun e w' => e = .returned (.int .i64 k) ∧ Below w.heap.size w w' := by
  have hgA : (w.alloc (.cells #[.int .i64 0] 60)).cell? ⟨0, 0, none⟩ = some (.iface 136 (.agg #[.pointer (some ⟨1, 25, none⟩)])) := hg.below ((Below.refl _ _).alloc (Nat.le_refl _) _)
  have htA : (w.alloc (.cells #[.int .i64 0] 60)).cell? ⟨w.heap.size, 0, none⟩ = some (.int .i64 0) := by simp
  have hfA : (w.alloc (.cells #[.int .i64 0] 60)).frozen? ⟨w.heap.size, 0, none⟩ = false := by simp
  have has := as_errno k ⟨w.heap.size, 0, none⟩ (.int .i64 0) _ hgA htA hfA
  have HAS := hide has
  clear has hgA htA hfA hg
  go_enter Tryd.func39, Tryd.ntmps39
  go_wp2_with fail
  refine (unhide HAS).mono ?_
  rintro e w1 ⟨rfl, rfl⟩
  go_wp2
  go_ret
  exact ⟨rfl, (((((Below.refl _ _).alloc (Nat.le_refl _) _).alloc (by simp) _).alloc (by simp; omega) _).alloc (by simp; omega) _).alloc (by simp; omega) _⟩

/-- vaultsame.Error of nil. -/
theorem error_nil (x : Int) (w : World) : Calls Tryd.prog 13 #[.nilIface, .int .i64 x] w fun e w' => e = .returned (.bool (0 == x)) ∧ w = w' := by
  go_enter Tryd.func13, Tryd.ntmps13
  go_wp2_with (go_at_call 39; refine (told_nil _).mono ?_; rintro e w' ⟨rfl, rfl⟩)
  go_ret
  exact ⟨rfl, rfl⟩

/-- vaultsame.Error of an error's number. -/
theorem error_errno (k x : Int) (w : World) (hg : ErrT w) : Calls Tryd.prog 13 #[.iface 60 (.int .i64 k), .int .i64 x] w fun e w' => e = .returned (.bool (k == x)) ∧ Below w.heap.size w w' := by
  go_enter Tryd.func13, Tryd.ntmps13
  go_wp2_with fail
  refine (told_errno k w hg).mono ?_
  rintro e w1 ⟨rfl, hb⟩
  go_wp2
  go_ret
  exact ⟨rfl, hb⟩
end Go.Proofs.YtidhbfondfclpaaDoor
/-! Which error was told: an error by its number is told as that number. (Part of the proofs.) -/
namespace Go.Proofs.YtidhbfondfclpaaDoor
open Go.RowKit
set_option linter.unusedVariables false

theorem error_same (x : Int) (w : World) (hg : ErrT w) : Calls Tryd.prog 13 #[errV x, .int .i64 x] w fun e w' => e = .returned (.bool true) ∧ Below w.heap.size w w' := by
  by_cases h : x = 0
  · subst h
    exact (error_nil 0 w).mono fun e w' ⟨he, hw⟩ => ⟨he, by rw [← hw]; exact Below.refl _ _⟩
  · rw [errV_pos x h]
    exact (error_errno x x w hg).mono fun e w' ⟨he, hw⟩ => ⟨by rw [he]; simp, hw⟩
end Go.Proofs.YtidhbfondfclpaaDoor
/-! How pages and a table beside them stand, while pages are committed again and again. (Part of the proof of PagesRow.) -/
namespace Go.Proofs.YtidhbfondfclpaaDoor
open Go.RowKit
set_option linter.unusedVariables false

structure RowSt (w0 w : World) (p q t n L : Nat) (S : Nat → Prop) (D : DS) (s : Int) (P F : Nat → List Int) : Prop where
  live : Live w0 w p S D
  pg : PgAt w q p s
  out : ¬ S q
  base : w0.heap.size ≤ q
  neat : ∃ a nl, Neat D L s P a nl
  left : D.left < 0
  len : D.secs.length = n
  tbl : Tbl w (plus S q) t L F
  tb : w0.heap.size ≤ t

section
variable {w0 w w' : World} {p q t n L : Nat} {S : Nat → Prop} {D : DS} {s : Int} {P F : Nat → List Int}
theorem RowSt.below (h : RowSt w0 w p q t n L S D s P F) (hb : Below w.heap.size w w') : RowSt w0 w' p q t n L S D s P F :=
  ⟨h.live.below hb, h.pg.below hb, h.out, h.base, h.neat, h.left, h.len, h.tbl.below hb, h.tb⟩
theorem RowSt.drewN (h : RowSt w0 w p q t n L S D s P F) (m : Nat) : RowSt w0 (w.drewN m) p q t n L S D s P F := h.below (below_drewN (Below.refl _ _) m)
theorem RowSt.rd (h : RowSt w0 w p q t n L S D s P F) {i : Nat} (hi : i < L) : D.rd (48 + i) = P i ∧ Sec (P i) ∧ D.down = false := by
  obtain ⟨a, nl, hn⟩ := h.neat
  have e : D.rd (48 + i) = P i := by rw [rd_img hn.mem]; exact hn.pages i hi
  refine ⟨e, ?_, hn.down⟩
  rw [← e]
  exact hn.ok.rd (by have := hn.len; omega)

/-- What a Commit comes to. -/
theorem RowSt.commit (h : RowSt w0 w p q t n L S D s P P) (hL : cntI n = L) (hs : s ≤ 900) (hs0 : 0 ≤ s) (a : Option Addr) (cap : Nat) (l : List (Int × List Int)) (hl : PgsO w0 (fun _ => False) a cap l) :
    Calls Tryd.prog 10 #[.pointer (some ⟨q, 0, none⟩), .slice a l.length cap] w fun e w' => ∃ E : Int, e = .returned (errV E) ∧ ∃ S' D' s' P', RowSt w0 w' p q t n L S' D' s' P' P ∧
      ((E ≠ 0 ∧ s' = s ∧ P' = P) ∨ (E = 0 ∧ l = [] ∧ s' = s ∧ P' = P) ∨ (E = 0 ∧ l ≠ [] ∧ s' = s + 1 ∧ P' = upd P l ∧ Valid L l)) := by
  obtain ⟨a0, nl, hn⟩ := h.neat
  have hb : ∀ k, k < l.length → Byt (l.getD k (0, [])).2 := fun k hk => by
    obtain ⟨b, off, _, _, h6⟩ := hl.2.2 (List.length_pos_iff.1 (by omega))
    obtain ⟨_, _, _, _, hbs, _⟩ := h6 k hk
    exact hbs.1
  refine (commit_any h.live h.pg h.out h.base a cap l (hl.live h.live) (by rw [h.len]; exact hL) hs0 (by omega)).mono ?_
  rintro e w' ⟨rfl, S', hlv, hpg, hout, ht⟩
  refine ⟨_, rfl, ?_⟩
  have htb := h.tbl.turn ht
  rcases commit_ever hn (by omega) h.left l hb with ⟨h1, h2⟩ | ⟨h1, h2⟩ | ⟨h1, hv, h2, h3, h4⟩
  · rw [h2] at hlv hpg ⊢
    exact ⟨S', D, s, P, ⟨hlv, hpg, hout, h.base, ⟨a0, nl, hn⟩, h.left, h.len, htb, h.tb⟩, .inl ⟨h1, rfl, rfl⟩⟩
  · rw [h2] at hlv hpg ⊢
    exact ⟨S', D, s, P, ⟨hlv, hpg, hout, h.base, ⟨a0, nl, hn⟩, h.left, h.len, htb, h.tb⟩, .inr (.inl ⟨rfl, h1, rfl, rfl⟩)⟩
  · have e1 : (commitOut D s L l).2.1 = s + 1 := by rw [h2]
    have e2 : (commitOut D s L l).2.2 = 0 := by rw [h2]
    rw [e1] at hpg
    have hlen : (commitOut D s L l).1.secs.length = n := by
      have := hlv.dev.ok
      rw [← h.len]
      have hrun := commitOut_run (D := D) (s := s) (L := L) (l := l) (by
        by_cases he : commitE L l = 0
        · exact he
        · have : commitOut D s L l = (D, s, commitE L l) := by unfold commitOut; rw [if_pos he]
          rw [this] at e2
          exact absurd e2 he) h1 (by have := hn.len; omega) (by omega)
      rw [hrun]
      show (commitRun D s l).1.secs.length = _
      rcases commit_all hn (by omega) hv hb with ⟨_, _, r3⟩ | ⟨_, _, r3, _⟩
      · exact r3
      · exact r3
    exact ⟨S', _, s + 1, upd P l, ⟨hlv, hpg, hout, h.base, ⟨_, _, h3⟩, h4, hlen, htb, h.tb⟩, .inr (.inr ⟨e2, h1, rfl, rfl, hv⟩)⟩

/-- Opened again, all is as it was. -/
theorem RowSt.open (h : RowSt w0 w p q t n L S D s P F) (hL : cntI n = L) (hL1 : 1 ≤ L) :
    Calls Tryd.prog 11 #[.pointer (some ⟨p, 0, none⟩)] w fun e w' => ∃ q', e = .returned (.tuple #[.pointer (some ⟨q', 0, none⟩), .nilIface]) ∧ ∃ S' D', RowSt w0 w' p q' t n L S' D' s P F := by
  obtain ⟨a0, nl, hn⟩ := h.neat
  refine (open_go h.live (by rw [h.len]; exact hL) hL1 hn.down).mono ?_
  rintro e w' ⟨v, rfl, S', hlv, ht, hyes, _⟩
  rcases open_ready hn.ready with ⟨r1, r2, r3, r4, r5⟩ | ⟨_, r2, _⟩
  · obtain ⟨q', rfl, hpg, hq', hout⟩ := hyes r1
    rw [r2] at hpg
    rw [r1, errV_zero]
    have hsz := h.live.bel.size
    refine ⟨q', rfl, S', _, hlv, hpg, hout, by omega, ⟨a0, nl, hn.opened r3⟩, r5 h.left, by rw [r3.len]; exact h.len, ?_, h.tb⟩
    have h1 := h.tbl.less.more (q := q') hq'
    exact h1.turn (ht.plus q')
  · exact absurd h.left r2
end
end Go.Proofs.YtidhbfondfclpaaDoor
