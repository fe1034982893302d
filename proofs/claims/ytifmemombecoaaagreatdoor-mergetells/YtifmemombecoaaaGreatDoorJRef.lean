/-
  Parts of the proofs, joined by program.
-/
import Derived.Test.YtifmemombecoaaaGreatDoorProg
import Derived.Test.YtifmemombecoaaaGreatDoorJNum
import Derived.WalkKit
import Derived.LaidEql
import Derived.Stop.Asserts
import Derived.RowKitTokens
namespace Go.Proofs.YtifmemombecoaaaGreatDoor
open Go.RowKit Go.Extern.Stop Go.Stop Go.Extern
set_option linter.unusedVariables false
theorem rl_valueOfP (t : Addr) (w : World) : (ReflectliteValue.unpack (.iface 105 (.pointer (some t)))).run Tryz.prog w
  = .ok (.agg #[.pointer (some ⟨1, 105, none⟩), .pointer (some ⟨w.heap.size, 0, none⟩), .int .u64 150]) (w.alloc (.cells #[.pointer (some t)] 105)) := by kernel_rfl
theorem rl_typeP (a : Addr) (w : World) : (ReflectliteValue.methodAny (ReflectliteValue.valueError "reflectlite.Value.Type" 0) (fun t _ _ _ => ReflectliteType.toType t) #[.agg #[.pointer (some ⟨1, 105, none⟩), .pointer (some a), .int .u64 150]]).run Tryz.prog w
  = .ok (.iface 172 (.agg #[.pointer (some ⟨1, 105, none⟩)])) w := by kernel_rfl
theorem rl_methodKind (h : Value) (w : World) : (Go.method 373 172 (.agg #[h]) "Kind").run Tryz.prog w = .ok (196, h) w := by kernel_rfl
theorem rl_kindP (w : World) : ((ReflectliteType.abiMethod fun t => Functor.map (fun a : Nat => Value.int IntKind.u8 (a : Int)) (Rtype.kind t)) #[.pointer (some ⟨1, 105, none⟩)]).run Tryz.prog w = .ok (.int .u8 22) w := by kernel_rfl
theorem rl_kindE (w : World) : ((ReflectliteType.abiMethod fun t => Functor.map (fun a : Nat => Value.int IntKind.u8 (a : Int)) (Rtype.kind t)) #[.pointer (some ⟨1, 52, none⟩)]).run Tryz.prog w = .ok (.int .u8 2) w := by kernel_rfl
theorem rl_one (motive : Array Value -> Sort 1) (v : Value) (h1 : (v : Value) -> motive #[v]) (h2 : (x : Array Value) -> motive x) : ReflectliteValue.method.match_2 motive #[v] h1 h2 = h1 v := rfl
theorem rl_two (motive : Array Value -> Sort 1) (v x : Value) (h1 : (v x : Value) -> motive #[v, x]) (h2 : (x : Array Value) -> motive x) : ReflectliteValue.set.match_3 motive #[v, x] h1 h2 = h1 v x := rfl
theorem rl_partsP (a : Addr) (w : World) : (ReflectliteValue.parts (.agg #[.pointer (some ⟨1, 105, none⟩), .pointer (some a), .int .u64 150])).run Tryz.prog w = .ok (some (105, a, 150)) w := by kernel_rfl
theorem rl_isNilP (a p : Addr) (W : World) (ha : W.cell? a = some (.pointer (some p))) :
  (ReflectliteValue.method (ReflectliteValue.valueError "reflectlite.Value.IsNil" 0) ReflectliteValue.isNil #[.agg #[.pointer (some ⟨1, 105, none⟩), .pointer (some a), .int .u64 150]]).run Tryz.prog W = .ok (.bool false) W := by
 delta ReflectliteValue.method
 rw [rl_one]
 simp only [Sem.run_bind, rl_partsP, Result.andThen]
 simp [ReflectliteValue.isNil, loadVar, isAgg, underlying, Tryz.underlying105, ha, Result.andThen]
theorem rl_methodElem (h : Value) (w : World) : (Go.method 373 172 (.agg #[h]) "Elem").run Tryz.prog w = .ok (206, .agg #[h]) w := by kernel_rfl
theorem rl_methodImplements (h : Value) (w : World) : (Go.method 373 172 (.agg #[h]) "Implements").run Tryz.prog w = .ok (207, .agg #[h]) w := by kernel_rfl
theorem rl_methodAssignableTo (h : Value) (w : World) : (Go.method 373 172 (.agg #[h]) "AssignableTo").run Tryz.prog w = .ok (204, .agg #[h]) w := by kernel_rfl
theorem rl_elemP (w : World) : (ReflectliteType.method ReflectliteType.elem #[.agg #[.pointer (some ⟨1, 105, none⟩)]]).run Tryz.prog w = .ok (.iface 172 (.agg #[.pointer (some ⟨1, 52, none⟩)])) w := by kernel_rfl
theorem rl_implementsE (w : World) : (ReflectliteType.relation "Implements" ReflectliteType.implements_ #[.agg #[.pointer (some ⟨1, 52, none⟩)], .iface 172 (.agg #[.pointer (some ⟨1, 28, none⟩)])]).run Tryz.prog w = .ok (.bool true) w := by kernel_rfl
theorem rl_typeOfE (v : Value) (w : World) : (ReflectliteType.typeOf #[.iface 52 v]).run Tryz.prog w = .ok (.iface 172 (.agg #[.pointer (some ⟨1, 52, none⟩)])) w := by kernel_rfl
theorem rl_assignableE (w : World) : (ReflectliteType.relation "AssignableTo" ReflectliteType.assignableTo #[.agg #[.pointer (some ⟨1, 52, none⟩)], .iface 172 (.agg #[.pointer (some ⟨1, 52, none⟩)])]).run Tryz.prog w = .ok (.bool true) w := by kernel_rfl
theorem rl_valueOfE (k : Int) (w : World) : (ReflectliteValue.unpack (.iface 52 (.int .i64 k))).run Tryz.prog w
  = .ok (.agg #[.pointer (some ⟨1, 52, none⟩), .pointer (some ⟨w.heap.size, 0, none⟩), .int .u64 130]) (w.alloc (.cells #[.int .i64 k] 52)) := by kernel_rfl
theorem rl_elemOfP (w : World) : (Rtype.elem? 105).run Tryz.prog w = .ok (some 52) w := by kernel_rfl
theorem rl_mkE (p : Addr) (w : World) : (ReflectliteValue.mk 52 p ReflectliteValue.flagAddr).run Tryz.prog w = .ok (.agg #[.pointer (some ⟨1, 52, none⟩), .pointer (some p), .int .u64 386]) w := by kernel_rfl
theorem rl_elemVP (a p : Addr) (W : World) (ha : W.cell? a = some (.pointer (some p))) :
  (ReflectliteValue.method (ReflectliteValue.valueError "reflectlite.Value.Elem" 0) ReflectliteValue.elem #[.agg #[.pointer (some ⟨1, 105, none⟩), .pointer (some a), .int .u64 150]]).run Tryz.prog W
   = .ok (.agg #[.pointer (some ⟨1, 52, none⟩), .pointer (some p), .int .u64 386]) W := by
 delta ReflectliteValue.method
 rw [rl_one]
 simp only [Sem.run_bind, rl_partsP, Result.andThen]
 simp [ReflectliteValue.elem, loadVar, isAgg, underlying, Tryz.underlying105, ha, Result.andThen, rl_elemOfP, rl_mkE]
theorem rl_partsEa (a : Addr) (w : World) : (ReflectliteValue.parts (.agg #[.pointer (some ⟨1, 52, none⟩), .pointer (some a), .int .u64 386])).run Tryz.prog w = .ok (some (52, a, 386)) w := by kernel_rfl
theorem rl_partsE (a : Addr) (w : World) : (ReflectliteValue.parts (.agg #[.pointer (some ⟨1, 52, none⟩), .pointer (some a), .int .u64 130])).run Tryz.prog w = .ok (some (52, a, 130)) w := by kernel_rfl
theorem rl_directE (w : World) : (Rtype.directlyAssignable 52 52).run Tryz.prog w = .ok true w := by kernel_rfl
theorem rl_setE (ta b : Addr) (k : Int) (old : Value) (W : World) (hb : W.cell? b = some (.int .i64 k)) (ht : W.cell? ta = some old) (hf : W.frozen? ta = false) :
  (ReflectliteValue.set #[.agg #[.pointer (some ⟨1, 52, none⟩), .pointer (some ta), .int .u64 386], .agg #[.pointer (some ⟨1, 52, none⟩), .pointer (some b), .int .u64 130]]).run Tryz.prog W
   = .ok (.tuple #[]) (W.setCell ta (.int .i64 k)) := by
 delta ReflectliteValue.set
 rw [rl_two]
 simp only [Sem.run_bind, rl_partsEa, rl_partsE, Result.andThen]
 simp [ReflectliteValue.flagAddr, loadVar, isAgg, underlying, Tryz.underlying52, hb, Result.andThen, rl_directE, storeVar, Value.cells, storeCells, Addr.add]
 rw [run_store Tryz.prog W ta _ _ (by rfl)]
 simp [ht, hf]
def ErrT (w : World) : Prop := w.cell? ⟨0, 0, none⟩ = some (.iface 172 (.agg #[.pointer (some ⟨1, 28, none⟩)]))
theorem ErrT.below {w w' : World} (h : ErrT w) (hb : Below w.heap.size w w') : ErrT w' := by
 unfold ErrT
 rw [hb.cell (block_lt_of_cell h)]; exact h
set_option maxRecDepth 100000 in
set_option maxHeartbeats 4000000 in
theorem as_errno (k : Int) (t : Addr) (old : Value) (w : World) (hg : w.cell? ⟨0, 0, none⟩ = some (.iface 172 (.agg #[.pointer (some ⟨1, 28, none⟩)]))) (ht0 : w.cell? t = some old) (hf0 : w.frozen? t = false) :
  Calls Tryz.prog 49 #[.iface 52 (.int .i64 k), .iface 105 (.pointer (some t))] w fun ev w' => ev = .returned (.bool true) /\ w' = ((((w.alloc (.cells #[.pointer (some t)] 105)).alloc (.cells #[.pointer (some ⟨1, 105, none⟩), .pointer (some ⟨w.heap.size, 0, none⟩), .int .u64 150] 137)).alloc (.cells #[.pointer (some ⟨1, 105, none⟩), .pointer (some ⟨w.heap.size, 0, none⟩), .int .u64 150] 137)).alloc (.cells #[.int .i64 k] 52)).setCell t (.int .i64 k) := by
 have h6 := @run_callFunc_extern Tryz.prog 77 _ (fun args => ReflectliteValue.unpack (args.getD 0 (.tuple #[]))) Tryz.func77 (by kernel_rfl) (by kernel_rfl) (by kernel_rfl) (by kernel_rfl)
 have h7 := @run_callFunc_extern Tryz.prog 78 _ (ReflectliteValue.methodAny (ReflectliteValue.valueError "reflectlite.Value.Type" 0) (fun t _ _ _ => ReflectliteType.toType t)) Tryz.func78 (by kernel_rfl) (by kernel_rfl) (by kernel_rfl) (by kernel_rfl)
 have h8 := @run_callFunc_extern Tryz.prog 79 _ (ReflectliteValue.method (ReflectliteValue.valueError "reflectlite.Value.IsNil" 0) ReflectliteValue.isNil) Tryz.func79 (by kernel_rfl) (by kernel_rfl) (by kernel_rfl) (by kernel_rfl)
 have h27 := @run_callFunc_extern Tryz.prog 196 _ (ReflectliteType.abiMethod fun t => do pure (.int .u8 (<- Rtype.kind t))) Tryz.func196 (by kernel_rfl) (by kernel_rfl) (by kernel_rfl) (by kernel_rfl)
 have h37 := @run_callFunc_extern Tryz.prog 206 _ (ReflectliteType.method ReflectliteType.elem) Tryz.func206 (by kernel_rfl) (by kernel_rfl) (by kernel_rfl) (by kernel_rfl)
 have h38 := @run_callFunc_extern Tryz.prog 207 _ (ReflectliteType.relation "Implements" ReflectliteType.implements_) Tryz.func207 (by kernel_rfl) (by kernel_rfl) (by kernel_rfl) (by kernel_rfl)
 have h10 := @run_callFunc_extern Tryz.prog 105 _ ReflectliteType.typeOf Tryz.func105 (by kernel_rfl) (by kernel_rfl) (by kernel_rfl) (by kernel_rfl)
 have h35 := @run_callFunc_extern Tryz.prog 204 _ (ReflectliteType.relation "AssignableTo" ReflectliteType.assignableTo) Tryz.func204 (by kernel_rfl) (by kernel_rfl) (by kernel_rfl) (by kernel_rfl)
 have h11 := @run_callFunc_extern Tryz.prog 106 _ (ReflectliteValue.method (ReflectliteValue.valueError "reflectlite.Value.Elem" 0) ReflectliteValue.elem) Tryz.func106 (by kernel_rfl) (by kernel_rfl) (by kernel_rfl) (by kernel_rfl)
 have h12 := @run_callFunc_extern Tryz.prog 107 _ ReflectliteValue.set Tryz.func107 (by kernel_rfl) (by kernel_rfl) (by kernel_rfl) (by kernel_rfl)
 have tO := rl_typeOfE
 have mA := rl_methodAssignableTo
 have a25 := rl_assignableE
 have v25 := rl_valueOfE
 have f6 := rl_valueOfP
 have f7 := rl_typeP
 have mK := rl_methodKind
 have mE := rl_methodElem
 have mI := rl_methodImplements
 have k27 := rl_kindP
 have k25 := rl_kindE
 have e27 := rl_elemP
 have i25 := rl_implementsE
 have n8 := rl_isNilP ⟨w.heap.size, 0, none⟩ t ((w.alloc (.cells #[.pointer (some t)] 105)).alloc (.cells #[.pointer (some ⟨1, 105, none⟩), .pointer (some ⟨w.heap.size, 0, none⟩), .int .u64 150] 137)) (by simp)
 have hlt : 0 < w.heap.size := block_lt_of_cell hg
 have hg2 : ((w.alloc (.cells #[.pointer (some t)] 105)).alloc (.cells #[.pointer (some ⟨1, 105, none⟩), .pointer (some ⟨w.heap.size, 0, none⟩), .int .u64 150] 137)).cell? ⟨0, 0, none⟩ = some (.iface 172 (.agg #[.pointer (some ⟨1, 28, none⟩)])) := by
  rw [World.cell?_alloc_lt _ _ ⟨0, 0, none⟩ (by simp; try omega), World.cell?_alloc_lt _ _ ⟨0, 0, none⟩ hlt]; exact hg
 have htl : t.block < w.heap.size := block_lt_of_cell ht0
 have el := rl_elemVP ⟨w.heap.size, 0, none⟩ t (((w.alloc (.cells #[.pointer (some t)] 105)).alloc (.cells #[.pointer (some ⟨1, 105, none⟩), .pointer (some ⟨w.heap.size, 0, none⟩), .int .u64 150] 137)).alloc (.cells #[.pointer (some ⟨1, 105, none⟩), .pointer (some ⟨w.heap.size, 0, none⟩), .int .u64 150] 137)) (by rw [World.cell?_alloc_lt _ _ ⟨w.heap.size, 0, none⟩ (by simp; omega)]; simp)
 have st := rl_setE t ⟨w.heap.size + 1 + 1 + 1, 0, none⟩ k old ((((w.alloc (.cells #[.pointer (some t)] 105)).alloc (.cells #[.pointer (some ⟨1, 105, none⟩), .pointer (some ⟨w.heap.size, 0, none⟩), .int .u64 150] 137)).alloc (.cells #[.pointer (some ⟨1, 105, none⟩), .pointer (some ⟨w.heap.size, 0, none⟩), .int .u64 150] 137)).alloc (.cells #[.int .i64 k] 52))
  (by rw [World.cell?_alloc_at _ _ _ _ (by simp)]; rfl)
  (by rw [World.cell?_alloc_lt _ _ t (by simp; omega), World.cell?_alloc_lt _ _ t (by simp; omega), World.cell?_alloc_lt _ _ t (by simp; omega), World.cell?_alloc_lt _ _ t htl]; exact ht0)
  (by rw [World.frozen?_alloc_old _ _ t (by simp; omega), World.frozen?_alloc_old _ _ t (by simp; omega), World.frozen?_alloc_old _ _ t (by simp; omega), World.frozen?_alloc_old _ _ t (Nat.ne_of_lt htl)]; exact hf0)
 go_enter Tryz.func49, Tryz.ntmps49
 go_wp2
 refine wp_loop_rounds 1 ?_
 rw [rounds_succ]
 go_wp2
 go_ret
 exact ⟨rfl, rfl⟩
end Go.Proofs.YtifmemombecoaaaGreatDoor
namespace Go.Proofs.YtifmemombecoaaaGreatDoor
open Go.RowKit
set_option linter.unusedVariables false
theorem told_nil (w : World) : Calls Tryz.prog 19 #[.nilIface] w fun e w' => e = .returned (.int .i64 0) /\ w = w' := by
 go_enter Tryz.func19, Tryz.ntmps19
 go_wp2
 go_ret
 exact ⟨rfl, rfl⟩
set_option maxRecDepth 100000 in
set_option maxHeartbeats 1000000 in
theorem told_errno (k : Int) (w : World) (hg : ErrT w) : Calls Tryz.prog 19 #[.iface 52 (.int .i64 k)] w fun e w' => e = .returned (.int .i64 k) /\ Below w.heap.size w w' := by
 have hgA : (w.alloc (.cells #[.int .i64 0] 52)).cell? ⟨0, 0, none⟩ = some (.iface 172 (.agg #[.pointer (some ⟨1, 28, none⟩)])) := hg.below ((Below.refl _ _).alloc (Nat.le_refl _) _)
 have htA : (w.alloc (.cells #[.int .i64 0] 52)).cell? ⟨w.heap.size, 0, none⟩ = some (.int .i64 0) := by simp
 have hfA : (w.alloc (.cells #[.int .i64 0] 52)).frozen? ⟨w.heap.size, 0, none⟩ = false := by simp
 have has := as_errno k ⟨w.heap.size, 0, none⟩ (.int .i64 0) _ hgA htA hfA
 have HAS := hide has
 clear has hgA htA hfA hg
 go_enter Tryz.func19, Tryz.ntmps19
 go_wp2_with fail
 refine (unhide HAS).mono ?_
 rintro e w1 ⟨rfl, rfl⟩
 go_wp2
 go_ret
 exact ⟨rfl, (((((Below.refl _ _).alloc (Nat.le_refl _) _).alloc (by simp) _).alloc (by simp; omega) _).alloc (by simp; omega) _).alloc (by simp; omega) _⟩
theorem error_nil (x : Int) (w : World) : Calls Tryz.prog 8 #[.nilIface, .int .i64 x] w fun e w' => e = .returned (.bool (0 == x)) /\ w = w' := by
 go_enter Tryz.func8, Tryz.ntmps8
 go_wp2_with (go_at_call 19; refine (told_nil _).mono ?_; rintro e w' ⟨rfl, rfl⟩)
 go_ret
 exact ⟨rfl, rfl⟩
theorem error_errno (k x : Int) (w : World) (hg : ErrT w) : Calls Tryz.prog 8 #[.iface 52 (.int .i64 k), .int .i64 x] w fun e w' => e = .returned (.bool (k == x)) /\ Below w.heap.size w w' := by
 go_enter Tryz.func8, Tryz.ntmps8
 go_wp2_with fail
 refine (told_errno k w hg).mono ?_
 rintro e w1 ⟨rfl, hb⟩
 go_wp2
 go_ret
 exact ⟨rfl, hb⟩
theorem error_same (x : Int) (w : World) (hg : ErrT w) : Calls Tryz.prog 8 #[errV x, .int .i64 x] w fun e w' => e = .returned (.bool true) /\ Below w.heap.size w w' := by
 by_cases h : x = 0
 ·subst h
  exact (error_nil 0 w).mono fun e w' ⟨he, hw⟩ => ⟨he, by rw [<- hw]; exact Below.refl _ _⟩
 ·rw [errV_pos x h]
  exact (error_errno x x w hg).mono fun e w' ⟨he, hw⟩ => ⟨by rw [he]; simp, hw⟩
theorem numOf_drop (l : List Int) (j : Nat) (h : j < l.length) : numOf (l.drop j) = l.getD j 0 + 256 * numOf (l.drop (j + 1)) := by
 rw [List.drop_eq_getElem_cons h]
 simp [numOf, List.getD, h]
theorem numOf_drop_bd (l : List Int) (hb : Byt l) (h4 : l.length <= 4) (j : Nat) : 0 <= numOf (l.drop j) /\ numOf (l.drop j) <= 4294967295 := by
 have h := numOf_bd (l.drop j) (fun z hz => hb z (List.mem_of_mem_drop hz))
 have h2 : (256 : Int) ^ (l.drop j).length <= 4294967296 := by
  have h3 : (l.drop j).length <= 4 := by simp; omega
  rcases (show (l.drop j).length = 0 \/ (l.drop j).length = 1 \/ (l.drop j).length = 2 \/ (l.drop j).length = 3 \/ (l.drop j).length = 4 from by omega) with e | e | e | e | e <;> rw [e] <;> decide
 omega
set_option maxRecDepth 100000 in
theorem rNumber (a : Option Addr) (cap : Nat) (l : List Int) (w : World) (hbs : Bs w a cap l) (h4 : l.length <= 4) :
  Calls Tryz.prog 64 #[.slice a l.length cap] w fun e w' => e = .returned (.int .i64 (numOf l)) /\ w = w' := by
 go_enter Tryz.func64, Tryz.ntmps64
 go_wp2
 go_loop [3, 4] (fun n i => ∃ j : Nat, j <= l.length /\ i = .int .i64 ((j : Int) - 1) /\ n = .int .i64 (numOf (l.drop j))) (fun _ i => (intOf i + 1).toNat)
 case atStart => exact ⟨l.length, Nat.le_refl _, rfl, by simp [numOf]⟩
 case round =>
  obtain ⟨j, hj, rfl, rfl⟩ := hrel
  by_cases h0 : 1 <= j
  ·obtain ⟨i, rfl⟩ : ∃ i, j = i + 1 := ⟨j - 1, by omega⟩
   obtain ⟨b, off, rfl, hc⟩ := hbs.2.2.2.2 (by intro h; subst h; simp at hj)
   have hx := hc i (by omega)
   have hy := hbs.1.getD i
   have hd := numOf_drop l i (by omega)
   have hbd := numOf_drop_bd l hbs.1 h4 (i + 1)
   have hji : ((i + 1 : Nat) : Int) - 1 = (i : Int) := by omega
   rw [hji]
   clear hji
   have HD := hide hd
   clear hd hc hbs
   generalize l.getD i 0 = c at *
   generalize numOf (l.drop (i + 1)) = n at *
   go_wp2
   go_round
   case rel => exact ⟨i, by omega, rfl, by rw [unhide HD]; go_num⟩
   case measure => simp [intOf]
  ·obtain rfl : j = 0 := by omega
   go_wp2
   go_ret
   exact ⟨rfl, rfl⟩
def getOut (l : List Int) (p s : Int) : Int × Int :=
 if ¬ (1 <= s /\ s <= 4) then (0, 1) else if ¬ (0 <= p /\ p <= l.length - s) then (0, 3) else (getV l p.toNat s.toNat, 0)
theorem pow256_bd (k : Nat) (h : k <= 4) : (1 : Int) <= 256 ^ k /\ (256 : Int) ^ k <= 4294967296 := by
 rcases (show k = 0 \/ k = 1 \/ k = 2 \/ k = 3 \/ k = 4 from by omega) with rfl | rfl | rfl | rfl | rfl <;> decide
theorem most_pow (s : Nat) (h1 : 1 <= s) (h2 : s <= 4) : most s + 1 = (256 : Int) ^ s := by
 rcases (show s = 1 \/ s = 2 \/ s = 3 \/ s = 4 from by omega) with rfl | rfl | rfl | rfl <;> decide
set_option maxRecDepth 100000 in
theorem rPut_size (a : Option Addr) (len cap : Nat) (p n s : Int) (w : World) (h : ¬ (1 <= s /\ s <= 4)) :
  Calls Tryz.prog 50 #[.slice a len cap, .int .i64 p, .int .i64 n, .int .i64 s] w fun e w' => e = .returned (.tuple #[.slice none 0 0, .int .i64 1]) /\ w = w' := by
 by_cases h1 : 1 <= s
 ·have h2 : ¬ s <= 4 := by omega
  clear h
  go_enter Tryz.func50, Tryz.ntmps50
  go_wp2
  go_ret2
  exact ⟨rfl, rfl⟩
 ·clear h
  go_enter Tryz.func50, Tryz.ntmps50
  go_wp2
  go_ret2
  exact ⟨rfl, rfl⟩
set_option maxRecDepth 100000 in
set_option maxHeartbeats 1000000 in
theorem rPut_neg (a : Option Addr) (cap : Nat) (l : List Int) (p n : Int) (S : Nat) (w : World) (hbs : Bs w a cap l) (h1 : 1 <= S) (h2 : S <= 4) (hp : -9223372036854775808 <= p /\ p <= 9223372036854775807) (hn : n < 0) :
  Calls Tryz.prog 50 #[.slice a l.length cap, .int .i64 p, .int .i64 n, .int .i64 S] w fun e w' => e = .returned (.tuple #[.slice none 0 0, .int .i64 1]) /\ w = w' := by
 have hl : l.length <= 140737488351232 := hbs.2.2.1
 go_enter Tryz.func50, Tryz.ntmps50
 go_wp2
 go_loop [10, 11] (fun m i => ∃ k : Nat, k <= S /\ i = .int .i64 k /\ m = .int .i64 (256 ^ k)) (fun _ i => S - (intOf i).toNat)
 case atStart => exact ⟨0, by omega, rfl, rfl⟩
 case round =>
  obtain ⟨k, hk, rfl, rfl⟩ := hrel
  have hbd := pow256_bd k (by omega)
  by_cases hlt : k < S
  ·have HS : Hid ((256 : Int) ^ (k + 1) = 256 ^ k * 256) := hide (Int.pow_succ 256 k)
   generalize (256 : Int) ^ k = y at *
   go_wp2
   go_round
   case rel => exact ⟨k + 1, by omega, by go_num, by rw [unhide HS]⟩
   case measure => simp [intOf]; omega
  ·obtain rfl : k = S := by omega
   generalize (256 : Int) ^ k = y at *
   go_wp2
   go_ret2
   exact ⟨rfl, rfl⟩
set_option maxRecDepth 100000 in
set_option maxHeartbeats 1000000 in
theorem rPut_most (a : Option Addr) (cap : Nat) (l : List Int) (p n : Int) (S : Nat) (w : World) (hbs : Bs w a cap l) (h1 : 1 <= S) (h2 : S <= 4) (hp : -9223372036854775808 <= p /\ p <= 9223372036854775807) (hn : ¬ n < 0) (hm : (256 : Int) ^ S <= n) :
  Calls Tryz.prog 50 #[.slice a l.length cap, .int .i64 p, .int .i64 n, .int .i64 S] w fun e w' => e = .returned (.tuple #[.slice none 0 0, .int .i64 1]) /\ w = w' := by
 have hl : l.length <= 140737488351232 := hbs.2.2.1
 go_enter Tryz.func50, Tryz.ntmps50
 go_wp2
 go_loop [10, 11] (fun m i => ∃ k : Nat, k <= S /\ i = .int .i64 k /\ m = .int .i64 (256 ^ k)) (fun _ i => S - (intOf i).toNat)
 case atStart => exact ⟨0, by omega, rfl, rfl⟩
 case round =>
  obtain ⟨k, hk, rfl, rfl⟩ := hrel
  have hbd := pow256_bd k (by omega)
  by_cases hlt : k < S
  ·have HS : Hid ((256 : Int) ^ (k + 1) = 256 ^ k * 256) := hide (Int.pow_succ 256 k)
   generalize (256 : Int) ^ k = y at *
   go_wp2
   go_round
   case rel => exact ⟨k + 1, by omega, by go_num, by rw [unhide HS]⟩
   case measure => simp [intOf]; omega
  ·obtain rfl : k = S := by omega
   generalize (256 : Int) ^ k = y at *
   go_wp2
   go_ret2
   exact ⟨rfl, rfl⟩
set_option maxRecDepth 100000 in
set_option maxHeartbeats 1000000 in
theorem rPut_lo (a : Option Addr) (cap : Nat) (l : List Int) (p n : Int) (S : Nat) (w : World) (hbs : Bs w a cap l) (h1 : 1 <= S) (h2 : S <= 4) (hp : -9223372036854775808 <= p /\ p <= 9223372036854775807) (hn : ¬ n < 0) (hm : n < (256 : Int) ^ S) (hq : p < 0) :
  Calls Tryz.prog 50 #[.slice a l.length cap, .int .i64 p, .int .i64 n, .int .i64 S] w fun e w' => e = .returned (.tuple #[.slice none 0 0, .int .i64 3]) /\ w = w' := by
 have hl : l.length <= 140737488351232 := hbs.2.2.1
 go_enter Tryz.func50, Tryz.ntmps50
 go_wp2
 go_loop [10, 11] (fun m i => ∃ k : Nat, k <= S /\ i = .int .i64 k /\ m = .int .i64 (256 ^ k)) (fun _ i => S - (intOf i).toNat)
 case atStart => exact ⟨0, by omega, rfl, rfl⟩
 case round =>
  obtain ⟨k, hk, rfl, rfl⟩ := hrel
  have hbd := pow256_bd k (by omega)
  by_cases hlt : k < S
  ·have HS : Hid ((256 : Int) ^ (k + 1) = 256 ^ k * 256) := hide (Int.pow_succ 256 k)
   generalize (256 : Int) ^ k = y at *
   go_wp2
   go_round
   case rel => exact ⟨k + 1, by omega, by go_num, by rw [unhide HS]⟩
   case measure => simp [intOf]; omega
  ·obtain rfl : k = S := by omega
   generalize (256 : Int) ^ k = y at *
   go_wp2
   go_ret2
   exact ⟨rfl, rfl⟩
set_option maxRecDepth 100000 in
set_option maxHeartbeats 1000000 in
theorem rPut_hi (a : Option Addr) (cap : Nat) (l : List Int) (p n : Int) (S : Nat) (w : World) (hbs : Bs w a cap l) (h1 : 1 <= S) (h2 : S <= 4) (hp : -9223372036854775808 <= p /\ p <= 9223372036854775807) (hn : ¬ n < 0) (hm : n < (256 : Int) ^ S) (hq : 0 <= p) (hq2 : (l.length : Int) < p) :
  Calls Tryz.prog 50 #[.slice a l.length cap, .int .i64 p, .int .i64 n, .int .i64 S] w fun e w' => e = .returned (.tuple #[.slice none 0 0, .int .i64 3]) /\ w = w' := by
 have hl : l.length <= 140737488351232 := hbs.2.2.1
 go_enter Tryz.func50, Tryz.ntmps50
 go_wp2
 go_loop [10, 11] (fun m i => ∃ k : Nat, k <= S /\ i = .int .i64 k /\ m = .int .i64 (256 ^ k)) (fun _ i => S - (intOf i).toNat)
 case atStart => exact ⟨0, by omega, rfl, rfl⟩
 case round =>
  obtain ⟨k, hk, rfl, rfl⟩ := hrel
  have hbd := pow256_bd k (by omega)
  by_cases hlt : k < S
  ·have HS : Hid ((256 : Int) ^ (k + 1) = 256 ^ k * 256) := hide (Int.pow_succ 256 k)
   generalize (256 : Int) ^ k = y at *
   go_wp2
   go_round
   case rel => exact ⟨k + 1, by omega, by go_num, by rw [unhide HS]⟩
   case measure => simp [intOf]; omega
  ·obtain rfl : k = S := by omega
   generalize (256 : Int) ^ k = y at *
   go_wp2
   go_ret2
   exact ⟨rfl, rfl⟩
set_option maxRecDepth 100000 in
set_option maxHeartbeats 1000000 in
theorem rPut_end (a : Option Addr) (cap : Nat) (l : List Int) (p n : Int) (S : Nat) (w : World) (hbs : Bs w a cap l) (h1 : 1 <= S) (h2 : S <= 4) (hp : -9223372036854775808 <= p /\ p <= 9223372036854775807) (hn : ¬ n < 0) (hm : n < (256 : Int) ^ S) (hq : 0 <= p) (hq2 : p <= l.length) (hq3 : (l.length : Int) - p < S) :
  Calls Tryz.prog 50 #[.slice a l.length cap, .int .i64 p, .int .i64 n, .int .i64 S] w fun e w' => e = .returned (.tuple #[.slice none 0 0, .int .i64 3]) /\ w = w' := by
 have hl : l.length <= 140737488351232 := hbs.2.2.1
 go_enter Tryz.func50, Tryz.ntmps50
 go_wp2
 go_loop [10, 11] (fun m i => ∃ k : Nat, k <= S /\ i = .int .i64 k /\ m = .int .i64 (256 ^ k)) (fun _ i => S - (intOf i).toNat)
 case atStart => exact ⟨0, by omega, rfl, rfl⟩
 case round =>
  obtain ⟨k, hk, rfl, rfl⟩ := hrel
  have hbd := pow256_bd k (by omega)
  by_cases hlt : k < S
  ·have HS : Hid ((256 : Int) ^ (k + 1) = 256 ^ k * 256) := hide (Int.pow_succ 256 k)
   generalize (256 : Int) ^ k = y at *
   go_wp2
   go_round
   case rel => exact ⟨k + 1, by omega, by go_num, by rw [unhide HS]⟩
   case measure => simp [intOf]; omega
  ·obtain rfl : k = S := by omega
   generalize (256 : Int) ^ k = y at *
   go_wp2
   go_ret2
   exact ⟨rfl, rfl⟩
set_option maxRecDepth 100000 in
set_option maxHeartbeats 1000000 in
theorem rPut_nat (a : Option Addr) (cap : Nat) (l : List Int) (p n : Int) (S : Nat) (w : World) (hbs : Bs w a cap l) (h1 : 1 <= S) (h2 : S <= 4) (hp : -9223372036854775808 <= p /\ p <= 9223372036854775807) (P : Nat) (hP : p = P) (hn : ¬ n < 0) (hm : n < (256 : Int) ^ S) (hq : P + S <= l.length) :
  Calls Tryz.prog 50 #[.slice a l.length cap, .int .i64 p, .int .i64 n, .int .i64 S] w fun e w' => ∃ g c, e = .returned (.tuple #[.slice (some ⟨g, 0, none⟩) l.length c, .int .i64 0]) /\ Own w' w.heap.size g c (putK l P n S) /\ Below w.heap.size w w' := by
 have hl : l.length <= 140737488351232 := hbs.2.2.1
 subst hP
 obtain ⟨i0, hi, hz0, hz1, hz2⟩ := info_parts info_u8
 have hne : l ≠ [] := by intro h; subst h; simp at hq; omega
 go_enter Tryz.func50, Tryz.ntmps50
 go_wp2
 go_loop [10, 11] (fun m i => ∃ k : Nat, k <= S /\ i = .int .i64 k /\ m = .int .i64 (256 ^ k)) (fun _ i => S - (intOf i).toNat)
 case atStart => exact ⟨0, by omega, rfl, rfl⟩
 case round =>
  obtain ⟨k, hk, rfl, rfl⟩ := hrel
  have hbd := pow256_bd k (by omega)
  by_cases hlt : k < S
  ·have HS : Hid ((256 : Int) ^ (k + 1) = 256 ^ k * 256) := hide (Int.pow_succ 256 k)
   generalize (256 : Int) ^ k = y at *
   go_wp2
   go_round
   case rel => exact ⟨k + 1, by omega, by go_num, by rw [unhide HS]⟩
   case measure => simp [intOf]; omega
  ·obtain rfl : k = S := by omega
   generalize (256 : Int) ^ k = y at *
   go_wp2_with (at_builtin; refine wpList_append_new rfl _ _ 22 rfl i0 Tryz.underlying22 hi hz0 hz1 hz2 a cap l rfl rfl hbs hne ?_; intro g c w1 hown hb1)
   go_loopw [2, 13] (fun nv i wr => ∃ j : Nat, j <= k /\ i = .int .i64 j /\ nv = .int .i64 (n / 2 ^ (8 * j)) /\ Own wr w.heap.size g c (putK l P n j) /\ Below w.heap.size w wr) (fun _ i _ => k - (intOf i).toNat)
   case atStart => exact ⟨0, by omega, rfl, by simp, hown, hb1⟩
   case round =>
    obtain ⟨j, hj, rfl, rfl, hown2, hb2⟩ := hrel
    by_cases hjk : j < k
    ·have hq0 : 0 <= n / 2 ^ (8 * j) := Int.ediv_nonneg (by omega) (Int.le_of_lt (Int.pow_pos (by decide)))
     have hq1 : n / 2 ^ (8 * j) <= n := Int.ediv_le_self _ (by omega)
     have HQ : Hid (n / 2 ^ (8 * (j + 1)) = n / 2 ^ (8 * j) / 256) := by
      rw [Int.ediv_ediv_of_nonneg (Int.le_of_lt (Int.pow_pos (by decide))), show 8 * (j + 1) = 8 * j + 8 from by omega, Int.pow_add]; rfl
     have HPK : Hid (putK l P n (j + 1) = (putK l P n j).set (P + j) (n / 2 ^ (8 * j) % 256)) := hide rfl
     have hfz := hown2.frozen (P + j)
     have hcl := hown2.cell (P + j) (by rw [length_putK]; omega)
     have HO := hide hown2
     clear hown2 hown
     generalize n / 2 ^ (8 * j) = m at *
     go_wp2
     go_roundw
     case rel => exact ⟨j + 1, by omega, by go_num, by rw [unhide HQ], by rw [unhide HPK]; exact (unhide HO).set (P + j) _, hb2.setCell (Nat.le_trans (Nat.le_refl _) (unhide HO).base) _⟩
     case measure => simp [intOf]; omega
    ·obtain rfl : j = k := by omega
     go_wp2
     go_ret2
     exact ⟨g, c, rfl, hown2, hb2⟩
theorem empty_yes (s : ByteArray) (h : s.size = 0) : s.toList.isEmpty = true := by
 have he : s = ByteArray.empty := by simpa using h
 have := Classical.propDecidable (s = ByteArray.empty)
 rw [<- decide_eq_emptyBytes]
 exact decide_eq_true he
theorem empty_no (s : ByteArray) (h : 1 <= s.size) : s.toList.isEmpty = false := by
 have := Classical.propDecidable (s = ByteArray.empty)
 rw [<- decide_eq_emptyBytes]
 refine decide_eq_false ?_
 intro he
 rw [he] at h
 simp at h
set_option maxRecDepth 100000 in
theorem rName_len (s : ByteArray) (w : World) (hs : s.size <= 140737488351232) (h : ¬ (1 <= s.size /\ s.size <= 8)) :
  Calls Tryz.prog 52 #[.string s] w fun e w' => e = .returned (.bool false) /\ w = w' := by
 by_cases h1 : 1 <= s.size
 ·have h2 : ¬ s.size <= 8 := by omega
  have he : s.toList.isEmpty = false := empty_no s h1
  clear h
  go_enter Tryz.func52, Tryz.ntmps52
  go_wp2
  go_ret
  exact ⟨rfl, rfl⟩
 ·have he : s.toList.isEmpty = true := empty_yes s (by omega)
  clear h
  go_enter Tryz.func52, Tryz.ntmps52
  go_wp2
  go_ret
  exact ⟨rfl, rfl⟩
theorem ltr_bd (c : Int) (h : ltr c = true) : 97 <= c /\ c <= 122 := by simpa [ltr] using h
theorem ltr_no (c : Int) (h : ltr c = false) : c < 97 \/ 122 < c := by
 by_cases h1 : 97 <= c
 ·by_cases h2 : c <= 122
  ·simp [ltr, h1, h2] at h
  ·omega
 ·omega
set_option maxRecDepth 100000 in
theorem rName_yes (s : ByteArray) (w : World) (h : NameOk s) :
  Calls Tryz.prog 52 #[.string s] w fun e w' => e = .returned (.bool true) /\ w = w' := by
 obtain ⟨h1, h2, h3⟩ := h
 have he : s.toList.isEmpty = false := empty_no s h1
 have HA := hide h3.2.1
 clear h3
 go_enter Tryz.func52, Tryz.ntmps52
 go_wp2
 go_loop [3] (fun i => ∃ k : Nat, k <= s.size /\ i = .int .i64 k) (fun i => s.size - (intOf i).toNat)
 case atStart => exact ⟨0, by omega, rfl⟩
 case round =>
  obtain ⟨k, hk, rfl⟩ := hrel
  by_cases hlt : k < s.size
  ·have hk1 := unhide HA k hlt
   rw [strL_getD s k hlt] at hk1
   have hk2 := ltr_bd _ (by simpa using hk1)
   clear hk1
   go_wp2
   go_round
   case rel => exact ⟨k + 1, by omega, by go_num⟩
   case measure => simp [intOf]; omega
  ·go_wp2
   go_ret
   exact ⟨rfl, rfl⟩
set_option maxRecDepth 100000 in
theorem rName_no (s : ByteArray) (w : World) (h1 : 1 <= s.size) (h2 : s.size <= 8) (i : Nat) (hi : First (fun j => (!ltr ((strL s).getD j 0))) s.size i) (hlt : i < s.size) :
  Calls Tryz.prog 52 #[.string s] w fun e w' => e = .returned (.bool false) /\ w = w' := by
 have he : s.toList.isEmpty = false := empty_no s h1
 have HA := hide hi.2.1
 have HB := hide (hi.2.2 hlt)
 clear hi
 go_enter Tryz.func52, Tryz.ntmps52
 go_wp2
 go_loop [3] (fun j => ∃ k : Nat, k <= i /\ j = .int .i64 k) (fun j => i - (intOf j).toNat)
 case atStart => exact ⟨0, by omega, rfl⟩
 case round =>
  obtain ⟨k, hk, rfl⟩ := hrel
  have hks : k < s.size := by omega
  by_cases hki : k < i
  ·have hk1 := unhide HA k hki
   rw [strL_getD s k hks] at hk1
   have hk2 := ltr_bd _ (by simpa using hk1)
   clear hk1
   go_wp2
   go_round
   case rel => exact ⟨k + 1, by omega, by go_num⟩
   case measure => simp [intOf]; omega
  ·obtain rfl : k = i := by omega
   have hk1 := unhide HB
   rw [strL_getD s k hks] at hk1
   have hk2 := ltr_no _ (by simpa using hk1)
   clear hk1
   rcases hk2 with hk2 | hk2
   ·go_wp2
    go_ret
    exact ⟨rfl, rfl⟩
   ·have hk3 : ¬ ((s[k].toNat : Int) < 97) := by omega
    go_wp2
    go_ret
    exact ⟨rfl, rfl⟩
def nameK (s : ByteArray) : Nat -> List Int
 | 0 => zerosB 8
 | k + 1 => (nameK s k).set k ((strL s).getD k 0)
theorem length_nameK (s : ByteArray) (k : Nat) : (nameK s k).length = 8 := by
 induction k with
 | zero => exact length_zerosB 8
 | succ k ih => simp [nameK, ih]
theorem nameK_getD (s : ByteArray) (k : Nat) (hk : k <= 8) : ∀ j, j < 8 -> (nameK s k).getD j 0 = if j < k then (strL s).getD j 0 else 0 := by
 induction k with
 | zero =>
  intro j hj
  have := zeros_getD 8 0 j
  simpa [nameK] using this
 | succ k ih =>
  intro j hj
  have hlen := length_nameK s k
  by_cases h : j = k
  ·subst h
   rw [if_pos (by omega)]
   simp only [nameK, List.getD]
   rw [List.getElem?_set_self (by omega)]
   rfl
  ·have h1 := ih (by omega) j hj
   simp only [nameK, List.getD] at h1 ⊢
   rw [List.getElem?_set_ne (by omega), h1]
   by_cases h2 : j < k
   ·rw [if_pos h2, if_pos (by omega)]
   ·rw [if_neg h2, if_neg (by omega)]
theorem nameK_size (s : ByteArray) (h : s.size <= 8) : nameK s s.size = nameL s := by
 apply ext_getD (by rw [length_nameK, length_nameL s h])
 intro j hj
 rw [length_nameK] at hj
 rw [nameK_getD s s.size h j hj]
 by_cases h1 : j < s.size
 ·rw [if_pos h1, nameL_lo s j h1]
 ·rw [if_neg h1, nameL_hi s j (by omega)]
theorem rName_fail (s : ByteArray) (w : World) (hs : s.size <= 140737488351232) (h : ¬ NameOk s) :
  Calls Tryz.prog 52 #[.string s] w fun e w' => e = .returned (.bool false) /\ w = w' := by
 by_cases h1 : 1 <= s.size /\ s.size <= 8
 ·have hf := first_fstN (fun j => (!ltr ((strL s).getD j 0))) s.size
  by_cases h2 : fstN (fun j => (!ltr ((strL s).getD j 0))) s.size < s.size
  ·exact rName_no s w h1.1 h1.2 _ hf h2
  ·have h3 : fstN (fun j => (!ltr ((strL s).getD j 0))) s.size = s.size := by have := hf.1; omega
   rw [h3] at hf
   exact absurd ⟨h1.1, h1.2, hf⟩ h
 ·exact rName_len s w hs h1
set_option maxRecDepth 100000 in
theorem rRead_len (a : Option Addr) (len cap : Nat) (w : World) (hl : len <= 140737488351232) (h : ¬ len = 8) :
  Calls Tryz.prog 37 #[.slice a len cap] w fun e w' => e = .returned (.tuple #[.string ByteArray.empty, .int .i64 3]) /\ w = w' := by
 have hne : ((len : Int) != 8) = true := by simp; omega
 go_enter Tryz.func37, Tryz.ntmps37
 go_wp2
 go_ret2
 exact ⟨rfl, rfl⟩
theorem drop_getD (l : List Int) (n j : Nat) : (l.drop n).getD j 0 = l.getD (n + j) 0 := by simp [List.getD]
set_option maxRecDepth 100000 in
set_option maxHeartbeats 1000000 in
theorem rRead_more (b off cap : Nat) (l : List Int) (w : World) (h8 : l.length = 8) (hc : ∀ i, i < l.length -> w.cell? ⟨b, off + i, none⟩ = some (.int .u8 (l.getD i 0)))
  (n m : Nat) (hn : First (fun j => (l.getD j 0 == 0)) 8 n) (hm : First (fun j => ((l.drop n).getD j 0 != 0)) (8 - n) m) (hlt : m < 8 - n) :
  Calls Tryz.prog 37 #[.slice (some ⟨b, off, none⟩) l.length cap] w fun e w' => e = .returned (.tuple #[.string ByteArray.empty, .int .i64 2]) /\ w = w' := by
 have ht1 : ((l.length : Int) != 8) = false := by simp; omega
 have hle : 8 <= l.length := by omega
 have hle2 : l.length <= 8 := by omega
 have hn8 : n <= 8 := hn.1
 have HC := hide hc
 have HN := hide hn
 have HM := hide hm
 clear h8 hc hn hm
 go_enter Tryz.func37, Tryz.ntmps37
 go_wp2
 go_loop [4] (fun i => ∃ k : Nat, k <= n /\ i = .int .i64 k) (fun i => n - (intOf i).toNat)
 case atStart => exact ⟨0, by omega, rfl⟩
 case round =>
  obtain ⟨k, hk, rfl⟩ := hrel
  by_cases hkn : k < n
  ·have hx := unhide HC k (by omega)
   have hz := (unhide HN).2.1 k hkn
   have hz2 : (l.getD k 0 != 0) = true := by simpa [bne] using hz
   clear hz
   generalize l.getD k 0 = c at *
   go_wp2
   go_round
   case rel => exact ⟨k + 1, by omega, by go_num⟩
   case measure => simp [intOf]; omega
  ·obtain rfl : k = n := by omega
   have hx := unhide HC k (by omega)
   have hz := (unhide HN).2.2 (by omega)
   have hz2 : (l.getD k 0 != 0) = false := by simpa [bne] using hz
   clear hz
   generalize hcc : l.getD k 0 = c at *
   clear hcc
   go_wp2_with fail
   go_loop [5] (fun i => ∃ j : Nat, j <= m /\ i = .int .i64 ((k + j : Nat) : Int)) (fun i => k + m - (intOf i).toNat)
   case atStart => exact ⟨0, by omega, rfl⟩
   case round =>
    obtain ⟨j, hj, rfl⟩ := hrel
    have hx2 := unhide HC (k + j) (by omega)
    by_cases hjm : j < m
    ·have hy := (unhide HM).2.1 j hjm
     have hy2 : (l.getD (k + j) 0 != 0) = false := by rw [<- drop_getD]; exact hy
     clear hy
     generalize l.getD (k + j) 0 = d at *
     go_wp2
     go_round
     case rel => exact ⟨j + 1, by omega, by go_num⟩
     case measure => simp [intOf]; omega
    ·obtain rfl : j = m := by omega
     have hy := (unhide HM).2.2 hlt
     have hy2 : (l.getD (k + j) 0 != 0) = true := by rw [<- drop_getD]; exact hy
     clear hy
     generalize l.getD (k + j) 0 = d at *
     go_wp2
     go_ret2
     exact ⟨rfl, rfl⟩
set_option maxRecDepth 100000 in
set_option maxHeartbeats 1000000 in
theorem rRead_zero (b off cap : Nat) (l : List Int) (w : World) (hbs : Bs w (some ⟨b, off, none⟩) cap l) (h8 : l.length = 8) (hc : ∀ i, i < l.length -> w.cell? ⟨b, off + i, none⟩ = some (.int .u8 (l.getD i 0)))
  (n m : Nat) (hn : First (fun j => (l.getD j 0 == 0)) 8 n) (hm : First (fun j => ((l.drop n).getD j 0 != 0)) (8 - n) m) (hge : 8 - n <= m) (v : Bool) (hv : ∀ w', Calls Tryz.prog 52 #[.string (strOf (l.take n))] w' fun e w2 => e = .returned (.bool v) /\ w' = w2) :
  Calls Tryz.prog 37 #[.slice (some ⟨b, off, none⟩) l.length cap] w fun e w' => e = .returned (if v then .tuple #[.string (strOf (l.take n)), .int .i64 0] else .tuple #[.string ByteArray.empty, .int .i64 2]) /\ w = w' := by
 have ht1 : ((l.length : Int) != 8) = false := by simp; omega
 have hle : 8 <= l.length := by omega
 have hle2 : l.length <= 8 := by omega
 have hn8 : n <= 8 := hn.1
 have hm8 : m <= 8 - n := hm.1
 obtain ⟨a3, hsh, hbs3⟩ := slice_hi Tryz.underlying22 size_u8 hbs n (by omega)
 have hcv := conv_str (P := Tryz.prog) (t := 22) (e := 9) Tryz.underlying22 Tryz.underlying5 Tryz.underlying9 hbs3
 rw [show (l.take n).length = n from by simp; omega] at hcv
 have HV := hide hv
 have HC := hide hc
 clear hv hbs hbs3
 have HN := hide hn
 have HM := hide hm
 clear h8 hc hn hm
 go_enter Tryz.func37, Tryz.ntmps37
 go_wp2
 go_loop [4] (fun i => ∃ k : Nat, k <= n /\ i = .int .i64 k) (fun i => n - (intOf i).toNat)
 case atStart => exact ⟨0, by omega, rfl⟩
 case round =>
  obtain ⟨k, hk, rfl⟩ := hrel
  by_cases hkn : k < n
  ·have hx := unhide HC k (by omega)
   have hz := (unhide HN).2.1 k hkn
   have hz2 : (l.getD k 0 != 0) = true := by simpa [bne] using hz
   clear hz
   generalize l.getD k 0 = c at *
   go_wp2
   go_round
   case rel => exact ⟨k + 1, by omega, by go_num⟩
   case measure => simp [intOf]; omega
  ·obtain rfl : k = n := by omega
   by_cases hk8 : k < 8
   ·have hx := unhide HC k (by omega)
    have hz := (unhide HN).2.2 (by omega)
    have hz2 : (l.getD k 0 != 0) = false := by simpa [bne] using hz
    clear hz
    generalize hcc : l.getD k 0 = c at *
    clear hcc
    go_wp2_with fail
    go_loop [5] (fun i => ∃ j : Nat, j <= m /\ i = .int .i64 ((k + j : Nat) : Int)) (fun i => k + m - (intOf i).toNat)
    case atStart => exact ⟨0, by omega, rfl⟩
    case round =>
     obtain ⟨j, hj, rfl⟩ := hrel
     by_cases hjm : j < m
     ·have hx2 := unhide HC (k + j) (by omega)
      have hy := (unhide HM).2.1 j hjm
      have hy2 : (l.getD (k + j) 0 != 0) = false := by rw [<- drop_getD]; exact hy
      clear hy
      generalize l.getD (k + j) 0 = d at *
      go_wp2
      go_round
      case rel => exact ⟨j + 1, by omega, by go_num⟩
      case measure => simp [intOf]; omega
     ·have hkj : ¬ k + j < 8 := by omega
      go_wp2_with fail
      refine (unhide HV _).mono ?_
      rintro e w1 ⟨rfl, rfl⟩
      cases v
      ·go_wp2
       go_ret2
       exact ⟨rfl, rfl⟩
      ·go_wp2
       go_ret2
       exact ⟨rfl, rfl⟩
   ·go_wp2_with fail
    go_loop [5] (fun i => ∃ j : Nat, j <= m /\ i = .int .i64 ((k + j : Nat) : Int)) (fun i => k + m - (intOf i).toNat)
    case atStart => exact ⟨0, by omega, rfl⟩
    case round =>
     obtain ⟨j, hj, rfl⟩ := hrel
     by_cases hjm : j < m
     ·exact absurd hjm (by omega)
     ·have hkj : ¬ k + j < 8 := by omega
      go_wp2_with fail
      refine (unhide HV _).mono ?_
      rintro e w1 ⟨rfl, rfl⟩
      cases v
      ·go_wp2
       go_ret2
       exact ⟨rfl, rfl⟩
      ·go_wp2
       go_ret2
       exact ⟨rfl, rfl⟩
theorem get_any (a : Option Addr) (cap : Nat) (l : List Int) (p s : Int) (w : World) (hbs : Bs w a cap l) :
  Calls Tryz.prog 101 #[.slice a l.length cap, .int .i64 p, .int .i64 s] w fun e w' => e = .returned (.tuple #[.int .i64 (getOut l p s).1, errV (getOut l p s).2]) /\ w = w' := by
 have hl := hbs.2.2.1
 by_cases h1 : 1 <= s /\ s <= 4
 ·by_cases h2 : 0 <= p /\ p <= l.length - s
  ·have e : getOut l p s = (getV l p.toNat s.toNat, 0) := by
    unfold getOut
    rw [if_neg (fun h => h h1), if_neg (fun h => h h2)]
   rw [e]
   exact get_yes a cap l p s w hbs h1.1 h1.2 h2.1 h2.2
  ·have e : getOut l p s = (0, 3) := by
    unfold getOut
    rw [if_neg (fun h => h h1), if_pos h2]
   rw [e]
   exact get_shape a l.length cap p s w (by omega) h1.1 h1.2 h2
 ·have e : getOut l p s = (0, 1) := by
   unfold getOut
   rw [if_pos h1]
  rw [e]
  exact get_size a l.length cap p s w h1
def putOut (l : List Int) (p n s : Int) : List Int × Int :=
 if ¬ (1 <= s /\ s <= 4) \/ n < 0 \/ most s < n then ([], 1) else if ¬ (0 <= p /\ p <= l.length - s) then ([], 3) else (putK l p.toNat n s.toNat, 0)
theorem put_any (a : Option Addr) (cap : Nat) (l : List Int) (p n s : Int) (w : World) (hbs : Bs w a cap l) :
  Calls Tryz.prog 137 #[.slice a l.length cap, .int .i64 p, .int .i64 n, .int .i64 s] w (Ends w (putOut l p n s).1 (errV (putOut l p n s).2)) := by
 have hl := hbs.2.2.1
 by_cases h1 : 1 <= s /\ s <= 4
 ·by_cases h2 : n < 0
  ·have e : putOut l p n s = ([], 1) := by unfold putOut; rw [if_pos (Or.inr (Or.inl h2))]
   rw [e]
   exact (put_neg a l.length cap p n s w h1.1 h1.2 h2).mono fun e w' ⟨he, hw⟩ => ends_nil he hw
  ·by_cases h3 : most s < n
   ·have e : putOut l p n s = ([], 1) := by unfold putOut; rw [if_pos (Or.inr (Or.inr h3))]
    rw [e]
    exact (put_most a l.length cap p n s w h1.1 h1.2 h2 h3).mono fun e w' ⟨he, hw⟩ => ends_nil he hw
   ·have hno : ¬ (¬ (1 <= s /\ s <= 4) \/ n < 0 \/ most s < n) := fun h => h.elim (fun h => h h1) (fun h => h.elim h2 h3)
    by_cases h4 : 0 <= p /\ p <= l.length - s
    ·have e : putOut l p n s = (putK l p.toNat n s.toNat, 0) := by unfold putOut; rw [if_neg hno, if_neg (fun h => h h4)]
     rw [e]
     obtain ⟨P, rfl⟩ := Int.eq_ofNat_of_zero_le h4.1
     obtain ⟨S, rfl⟩ := Int.eq_ofNat_of_zero_le (show 0 <= s from by omega)
     rw [Int.toNat_natCast, Int.toNat_natCast]
     refine (put_ok a cap l P S n w hbs ⟨h1.1, h1.2, by omega, by omega, h4.1, h4.2⟩).mono fun e w' ⟨g, he, hg, hk, hb⟩ => ?_
     have hlen := length_putK l P n S
     exact ⟨some ⟨g, 0, none⟩, (putK l P n S).length, by rw [hlen]; exact he, hk.bs (byt_putK hbs.1 P n S) (by rw [hlen]; exact hl), hb⟩
    ·have e : putOut l p n s = ([], 3) := by unfold putOut; rw [if_neg hno, if_pos h4]
     rw [e]
     exact (put_shape a l.length cap p n s w (by omega) h1.1 h1.2 h2 h3 h4).mono fun e w' ⟨he, hw⟩ => ends_nil he hw
 ·have e : putOut l p n s = ([], 1) := by unfold putOut; rw [if_pos (Or.inl h1)]
  rw [e]
  exact (put_size a l.length cap p n s w h1).mono fun e w' ⟨he, hw⟩ => ends_nil he hw
theorem rPut_any (a : Option Addr) (cap : Nat) (l : List Int) (p n s : Int) (w : World) (hbs : Bs w a cap l) (hp : -9223372036854775808 <= p /\ p <= 9223372036854775807) :
  Calls Tryz.prog 50 #[.slice a l.length cap, .int .i64 p, .int .i64 n, .int .i64 s] w (Ends w (putOut l p n s).1 (.int .i64 (putOut l p n s).2)) := by
 have hl := hbs.2.2.1
 by_cases h1 : 1 <= s /\ s <= 4
 ·obtain ⟨S, rfl⟩ := Int.eq_ofNat_of_zero_le (show 0 <= s from by omega)
  have hS1 : 1 <= S := by omega
  have hS4 : S <= 4 := by omega
  have hmp := most_pow S hS1 hS4
  by_cases h2 : n < 0
  ·have e : putOut l p n S = ([], 1) := by unfold putOut; rw [if_pos (Or.inr (Or.inl h2))]
   rw [e]
   exact (rPut_neg a cap l p n S w hbs hS1 hS4 hp h2).mono fun e w' ⟨he, hw⟩ => ends_nil he hw
  ·by_cases h3 : most S < n
   ·have e : putOut l p n S = ([], 1) := by unfold putOut; rw [if_pos (Or.inr (Or.inr h3))]
    rw [e]
    exact (rPut_most a cap l p n S w hbs hS1 hS4 hp h2 (by omega)).mono fun e w' ⟨he, hw⟩ => ends_nil he hw
   ·have hno : ¬ (¬ (1 <= (S : Int) /\ (S : Int) <= 4) \/ n < 0 \/ most S < n) := fun h => h.elim (fun h => h h1) (fun h => h.elim h2 h3)
    by_cases h4 : 0 <= p /\ p <= l.length - S
    ·have e : putOut l p n S = (putK l p.toNat n S, 0) := by unfold putOut; rw [if_neg hno, if_neg (fun h => h h4), Int.toNat_natCast]
     rw [e]
     obtain ⟨P, rfl⟩ := Int.eq_ofNat_of_zero_le h4.1
     rw [Int.toNat_natCast]
     refine (rPut_nat a cap l P n S w hbs hS1 hS4 hp P rfl h2 (by omega) (by omega)).mono fun e w' ⟨g, c, he, hown, hb⟩ => ?_
     have hlen := length_putK l P n S
     exact ⟨some ⟨g, 0, none⟩, c, by rw [hlen]; exact he, hown.bs (byt_putK hbs.1 P n S) (by rw [hlen]; exact hl), hb⟩
    ·have e : putOut l p n S = ([], 3) := by unfold putOut; rw [if_neg hno, if_pos h4]
     rw [e]
     by_cases h5 : 0 <= p
     ·by_cases h6 : (l.length : Int) < p
      ·exact (rPut_hi a cap l p n S w hbs hS1 hS4 hp h2 (by omega) h5 h6).mono fun e w' ⟨he, hw⟩ => ends_nil he hw
      ·exact (rPut_end a cap l p n S w hbs hS1 hS4 hp h2 (by omega) h5 (by omega) (by omega)).mono fun e w' ⟨he, hw⟩ => ends_nil he hw
     ·exact (rPut_lo a cap l p n S w hbs hS1 hS4 hp h2 (by omega) (by omega)).mono fun e w' ⟨he, hw⟩ => ends_nil he hw
 ·have e : putOut l p n s = ([], 1) := by unfold putOut; rw [if_pos (Or.inl h1)]
  rw [e]
  exact (rPut_size a l.length cap p n s w h1).mono fun e w' ⟨he, hw⟩ => ends_nil he hw
theorem putName_any (s : ByteArray) (w : World) (hs : s.size <= 140737488351232) (L : List Int) (x : Int) (h : (NameOk s /\ L = nameL s /\ x = 0) \/ (¬ NameOk s /\ L = [] /\ x = 2)) :
  Calls Tryz.prog 139 #[.string s] w (Ends w L (errV x)) := by
 rcases h with ⟨hn, rfl, rfl⟩ | ⟨hn, rfl, rfl⟩
 ·refine (putName_yes s w hn.1 hn.2.1 hn.2.2).mono fun e w' ⟨g, he, hg, hk, hb⟩ => ?_
  have hlen := length_nameL s hn.2.1
  exact ⟨some ⟨g, 0, none⟩, (nameL s).length, by rw [hlen]; exact he, hk.bs (byt_nameL s) (by rw [hlen]; decide), hb⟩
 ·exact (putName_fail s w hs hn).mono fun e w' ⟨he, hb⟩ => ⟨none, 0, he, bs_nil _, hb⟩
def lettersN (l : List Int) : Nat := fstN (fun j => (!ltr (l.getD j 0))) l.length
def zerosN (l : List Int) (i : Nat) : Nat := fstN (fun j => ((l.drop i).getD j 0 != 0)) (l.drop i).length
def readOut (l : List Int) : ByteArray × Int :=
 if ¬ l.length = 8 then (ByteArray.empty, 3) else if lettersN l = 0 \/ zerosN l (lettersN l) < l.length - lettersN l then (ByteArray.empty, 2) else (strOf (l.take (lettersN l)), 0)
theorem getName_any (a : Option Addr) (cap : Nat) (l : List Int) (w : World) (hbs : Bs w a cap l) :
  Calls Tryz.prog 109 #[.slice a l.length cap] w fun e w' => e = .returned (.tuple #[.string (readOut l).1, errV (readOut l).2]) /\ Below w.heap.size w w' := by
 have hl := hbs.2.2.1
 by_cases h8 : l.length = 8
 ·have hi := first_fstN (fun j => (!ltr (l.getD j 0))) l.length
  have hz := first_fstN (fun j => ((l.drop (lettersN l)).getD j 0 != 0)) (l.drop (lettersN l)).length
  by_cases h0 : lettersN l = 0
  ·have e : readOut l = (ByteArray.empty, 2) := by unfold readOut; rw [if_neg (fun h => h h8), if_pos (Or.inl h0)]
   rw [e]
   exact getName_none a cap l w hbs h8 (lettersN l) (zerosN l (lettersN l)) hi hz h0
  ·by_cases h1 : zerosN l (lettersN l) < l.length - lettersN l
   ·have e : readOut l = (ByteArray.empty, 2) := by unfold readOut; rw [if_neg (fun h => h h8), if_pos (Or.inr h1)]
    rw [e]
    exact getName_more a cap l w hbs h8 (lettersN l) (zerosN l (lettersN l)) hi hz h0 h1
   ·have e : readOut l = (strOf (l.take (lettersN l)), 0) := by unfold readOut; rw [if_neg (fun h => h h8), if_neg (fun h => h.elim h0 h1)]
    rw [e]
    exact getName_yes a cap l w hbs h8 (lettersN l) (zerosN l (lettersN l)) hi hz h0 (by omega)
 ·have e : readOut l = (ByteArray.empty, 3) := by unfold readOut; rw [if_pos h8]
  rw [e]
  exact getName_len a l.length cap w hl h8
theorem size_strOf (l : List Int) : (strOf l).size = l.length := by
 have h := congrArg List.length (strOf_data l)
 simpa using h
theorem name_at (l : List Int) (hb : Byt l) (h8 : l.length = 8) (n : Nat) (hn : n <= 8) (hz : ∀ j, j < 8 - n -> (l.drop n).getD j 0 = 0) : NameOk (strOf (l.take n)) ↔ (lettersN l = n /\ ¬ n = 0) := by
 have hsz : (strOf (l.take n)).size = n := by rw [size_strOf]; simp; omega
 have hsl : strL (strOf (l.take n)) = l.take n := strL_strOf _ (fun z hz => hb z (List.mem_of_mem_take hz))
 have hget : ∀ j, j < n -> (l.take n).getD j 0 = l.getD j 0 := fun j hj => by simp [List.getD, hj]
 have hnz : n < 8 -> ltr (l.getD n 0) = false := fun h => by
  have := hz 0 (by omega)
  rw [drop_getD, Nat.add_zero] at this
  rw [this]; rfl
 have hfirst := first_fstN (fun j => (!ltr (l.getD j 0))) l.length
 constructor
 ·intro ⟨h1, h2, h3⟩
  rw [hsz] at h1 h2 h3
  rw [hsl] at h3
  refine ⟨hfirst.unique ⟨by omega, fun j hj => ?_, fun h => ?_⟩, by omega⟩
  ·have := h3.2.1 j hj
   show (!ltr (l.getD j 0)) = false
   rw [<- hget j hj]; exact this
  ·show (!ltr (l.getD n 0)) = true
   rw [hnz (by omega)]; rfl
 ·intro ⟨h1, h2⟩
  unfold NameOk
  rw [hsz, hsl]
  refine ⟨by omega, hn, Nat.le_refl _, fun j hj => ?_, fun h => absurd h (Nat.lt_irrefl _)⟩
  show (!ltr ((l.take n).getD j 0)) = false
  rw [hget j hj]
  have h3 : fstN (fun j => (!ltr (l.getD j 0))) l.length = n := h1
  rw [h3] at hfirst
  exact hfirst.2.1 j hj
theorem rRead_any (a : Option Addr) (cap : Nat) (l : List Int) (w : World) (hbs : Bs w a cap l) :
  Calls Tryz.prog 37 #[.slice a l.length cap] w fun e w' => e = .returned (.tuple #[.string (readOut l).1, .int .i64 (readOut l).2]) /\ w = w' := by
 have hl := hbs.2.2.1
 by_cases h8 : l.length = 8
 ·obtain ⟨b, off, rfl, hc⟩ := hbs.2.2.2.2 (by intro h; rw [h] at h8; simp at h8)
  have hn := first_fstN (fun j => (l.getD j 0 == 0)) 8
  generalize hN : fstN (fun j => (l.getD j 0 == 0)) 8 = n at hn
  have hn8 := hn.1
  have hm := first_fstN (fun j => ((l.drop n).getD j 0 != 0)) (8 - n)
  generalize hM : fstN (fun j => ((l.drop n).getD j 0 != 0)) (8 - n) = m at hm
  have hm8 := hm.1
  have hi := first_fstN (fun j => (!ltr (l.getD j 0))) l.length
  have hdl : ∀ i, (l.drop i).length = 8 - i := fun i => by simp [h8]
  by_cases hlt : m < 8 - n
  ·have e : readOut l = (ByteArray.empty, 2) := by
    unfold readOut
    rw [if_neg (fun h => h h8)]
    by_cases hq : lettersN l = 0 \/ zerosN l (lettersN l) < l.length - lettersN l
    ·rw [if_pos hq]
    ·exfalso
     have h0 : ¬ lettersN l = 0 := fun h => hq (Or.inl h)
     have h1 : ¬ zerosN l (lettersN l) < l.length - lettersN l := fun h => hq (Or.inr h)
     have hzf : First (fun j => ((l.drop (lettersN l)).getD j 0 != 0)) (l.drop (lettersN l)).length (zerosN l (lettersN l)) := first_fstN _ _
     have hle : lettersN l <= l.length := hi.1
     -- the first zero is where the letters end
     have hnl : lettersN l = n := by
      refine First.unique (f := fun j => (l.getD j 0 == 0)) (n := 8) ⟨by omega, fun j hj => ?_, fun h => ?_⟩ hn
      ·have h2 : (!ltr (l.getD j 0)) = false := hi.2.1 j hj
       have h3 := ltr_bd (l.getD j 0) (by simpa using h2)
       show (l.getD j 0 == 0) = false
       exact beq_eq_false_iff_ne.2 (by omega)
      ·have h2 : ((l.drop (lettersN l)).getD 0 0 != 0) = false := hzf.2.1 0 (by omega)
       rw [drop_getD, Nat.add_zero] at h2
       show (l.getD (lettersN l) 0 == 0) = true
       simpa [bne] using h2
     rw [hnl] at h1 hzf
     have h4 : ((l.drop n).getD m 0 != 0) = true := hm.2.2 hlt
     have h5 : ((l.drop n).getD m 0 != 0) = false := hzf.2.1 m (by omega)
     rw [h4] at h5; cases h5
   rw [e]
   exact rRead_more b off cap l w h8 hc n m hn hm hlt
  ·have hzero : ∀ j, j < 8 - n -> (l.drop n).getD j 0 = 0 := fun j hj => by
    have h2 : ((l.drop n).getD j 0 != 0) = false := hm.2.1 j (by omega)
    simpa using h2
   have hiff := name_at l hbs.1 h8 n hn8 hzero
   have hsz : (strOf (l.take n)).size = n := by rw [size_strOf]; simp; omega
   have hzn : zerosN l n = 8 - n := by
    have hzf : First (fun j => ((l.drop n).getD j 0 != 0)) (l.drop n).length (zerosN l n) := first_fstN _ _
    rw [hdl] at hzf
    refine hzf.unique ⟨Nat.le_refl _, fun j hj => ?_, fun h => absurd h (Nat.lt_irrefl _)⟩
    show ((l.drop n).getD j 0 != 0) = false
    rw [hzero j hj]; rfl
   by_cases hok : NameOk (strOf (l.take n))
   ·obtain ⟨h1, h2⟩ := hiff.1 hok
    have e : readOut l = (strOf (l.take n), 0) := by
     unfold readOut
     rw [if_neg (fun h => h h8), h1, if_neg (fun h => h.elim h2 (fun h => by rw [hzn] at h; omega))]
    rw [e]
    exact rRead_zero b off cap l w hbs h8 hc n m hn hm (by omega) true (fun w' => rName_yes _ w' hok)
   ·have e : readOut l = (ByteArray.empty, 2) := by
     unfold readOut
     rw [if_neg (fun h => h h8)]
     by_cases hq : lettersN l = 0 \/ zerosN l (lettersN l) < l.length - lettersN l
     ·rw [if_pos hq]
     ·exfalso
      have h0 : ¬ lettersN l = 0 := fun h => hq (Or.inl h)
      have h1 : ¬ zerosN l (lettersN l) < l.length - lettersN l := fun h => hq (Or.inr h)
      have hzf : First (fun j => ((l.drop (lettersN l)).getD j 0 != 0)) (l.drop (lettersN l)).length (zerosN l (lettersN l)) := first_fstN _ _
      have hle : lettersN l <= l.length := hi.1
      have hnl : lettersN l = n := by
       refine First.unique (f := fun j => (l.getD j 0 == 0)) (n := 8) ⟨by omega, fun j hj => ?_, fun h => ?_⟩ hn
       ·have h2 : (!ltr (l.getD j 0)) = false := hi.2.1 j hj
        have h3 := ltr_bd (l.getD j 0) (by simpa using h2)
        show (l.getD j 0 == 0) = false
        exact beq_eq_false_iff_ne.2 (by omega)
       ·have h2 : ((l.drop (lettersN l)).getD 0 0 != 0) = false := hzf.2.1 0 (by omega)
        rw [drop_getD, Nat.add_zero] at h2
        show (l.getD (lettersN l) 0 == 0) = true
        simpa [bne] using h2
      exact hok (hiff.2 ⟨hnl, by omega⟩)
    rw [e]
    exact rRead_zero b off cap l w hbs h8 hc n m hn hm (by omega) false (fun w' => rName_fail _ w' (by rw [hsz]; omega) hok)
 ·have e : readOut l = (ByteArray.empty, 3) := by unfold readOut; rw [if_pos h8]
  rw [e]
  exact rRead_len a l.length cap w hl h8
end Go.Proofs.YtifmemombecoaaaGreatDoor
